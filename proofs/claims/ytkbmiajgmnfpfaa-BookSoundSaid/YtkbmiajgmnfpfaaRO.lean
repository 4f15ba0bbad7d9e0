/- Trades and positions in memory; whether a trade's numbers may be. -/
import Derived.Test.YtkbmiajgmnfpfaaRA2
import Derived.Test.YtkbmiajgmnfpfaaRA3
import Derived.Deep.RegionHeld3
import Derived.BigQuiet
import Derived.Test.YtkbmiajgmnfpfaaRA
import Derived.Test.YtkbmiajgmnfpfaaRN
import Derived.Deep.RegionLaw
namespace Go.Proofs.Ytkbmiajgmnfpfaa.NumK
open Go.RowKit
set_option linter.unusedVariables false

def enPo : En Po := ⟨4, fun x => [.int .i64 x.1, .int .i64 x.2.1, .int .i64 x.2.2.1, .int .i64 x.2.2.2], fun _ => rfl, fun a v hv => by
  simp at hv; rcases hv with rfl | rfl | rfl | rfl <;> rfl, by decide⟩
def enTr : En Tr := ⟨7, fun t => [.int .i64 t.1.1, .int .i64 t.1.2.1, .int .i64 t.1.2.2.1, .int .i64 t.1.2.2.2.1, .int .i64 t.1.2.2.2.2.1, .int .i64 t.1.2.2.2.2.2, .bool t.2], fun _ => rfl, fun a v hv => by
  simp at hv; rcases hv with rfl | rfl | rfl | rfl | rfl | rfl | rfl <;> rfl, by decide⟩
abbrev vPo (x : Po) : Value := .agg #[.int .i64 x.1, .int .i64 x.2.1, .int .i64 x.2.2.1, .int .i64 x.2.2.2]
abbrev vTr (t : Tr) : Value := .agg #[.int .i64 t.1.1, .int .i64 t.1.2.1, .int .i64 t.1.2.2.1, .int .i64 t.1.2.2.2.1, .int .i64 t.1.2.2.2.2.1, .int .i64 t.1.2.2.2.2.2, .bool t.2]
theorem info_po : (Try.prog.info? 36).map (fun i => (i.zero, i.size, i.bytes)) = some (some (vPo po0), 4, 32) := by kernel_rfl

def CPo (w : World) (b p : Nat) (x : Po) : Prop :=
  w.cell? ⟨b, p, none⟩ = some (.int .i64 x.1) ∧ w.cell? ⟨b, p + 1, none⟩ = some (.int .i64 x.2.1) ∧ w.cell? ⟨b, p + 2, none⟩ = some (.int .i64 x.2.2.1) ∧ w.cell? ⟨b, p + 3, none⟩ = some (.int .i64 x.2.2.2)
theorem CPo.keep {w w' : World} {b p : Nat} {x : Po} (h : CPo w b p x) (g : Grew w w') (hb : b < w.heap.size) : CPo w' b p x :=
  ⟨(grew_cell g (p := ⟨b, _, none⟩) hb).trans h.1, (grew_cell g (p := ⟨b, _, none⟩) hb).trans h.2.1, (grew_cell g (p := ⟨b, _, none⟩) hb).trans h.2.2.1, (grew_cell g (p := ⟨b, _, none⟩) hb).trans h.2.2.2⟩
theorem RowE.po {w : World} {n : Nat} {l : List Po} {A : Option Addr} (h : RowE enPo w A n l) {j : Nat} (hj : j < n) : ∃ b o, A = some ⟨b, o, none⟩ ∧ b < w.heap.size ∧ ∀ j, j < n → CPo w b (o + j * 4) (l.getD j po0) := by
  have hl := h.len
  obtain ⟨b, o, e, hb, hc⟩ := h.at (by omega)
  refine ⟨b, o, e, hb, fun j hj => ?_⟩
  have hj' : j < l.length := by omega
  rw [getD_at l po0 j hj']
  exact ⟨hc j hj' 0 (by decide), hc j hj' 1 (by decide), hc j hj' 2 (by decide), hc j hj' 3 (by decide)⟩
def CTr (w : World) (b p : Nat) (t : Tr) : Prop :=
  w.cell? ⟨b, p, none⟩ = some (.int .i64 t.1.1) ∧ w.cell? ⟨b, p + 1, none⟩ = some (.int .i64 t.1.2.1) ∧ w.cell? ⟨b, p + 2, none⟩ = some (.int .i64 t.1.2.2.1) ∧ w.cell? ⟨b, p + 3, none⟩ = some (.int .i64 t.1.2.2.2.1)
  ∧ w.cell? ⟨b, p + 4, none⟩ = some (.int .i64 t.1.2.2.2.2.1) ∧ w.cell? ⟨b, p + 5, none⟩ = some (.int .i64 t.1.2.2.2.2.2) ∧ w.cell? ⟨b, p + 6, none⟩ = some (.bool t.2)
theorem CTr.keep {w w' : World} {b p : Nat} {t : Tr} (h : CTr w b p t) (g : Grew w w') (hb : b < w.heap.size) : CTr w' b p t := by
  obtain ⟨h0, h1, h2, h3, h4, h5, h6⟩ := h
  exact ⟨(grew_cell g (p := ⟨b, _, none⟩) hb).trans h0, (grew_cell g (p := ⟨b, _, none⟩) hb).trans h1, (grew_cell g (p := ⟨b, _, none⟩) hb).trans h2, (grew_cell g (p := ⟨b, _, none⟩) hb).trans h3,
    (grew_cell g (p := ⟨b, _, none⟩) hb).trans h4, (grew_cell g (p := ⟨b, _, none⟩) hb).trans h5, (grew_cell g (p := ⟨b, _, none⟩) hb).trans h6⟩
theorem RowE.tr {w : World} {n : Nat} {l : List Tr} {A : Option Addr} (h : RowE enTr w A n l) {j : Nat} (hj : j < n) : ∃ b o, A = some ⟨b, o, none⟩ ∧ b < w.heap.size ∧ ∀ j, j < n → CTr w b (o + j * 7) (l.getD j tr0) := by
  have hl := h.len
  obtain ⟨b, o, e, hb, hc⟩ := h.at (by omega)
  refine ⟨b, o, e, hb, fun j hj => ?_⟩
  have hj' : j < l.length := by omega
  rw [getD_at l tr0 j hj']
  exact ⟨hc j hj' 0 (by decide), hc j hj' 1 (by decide), hc j hj' 2 (by decide), hc j hj' 3 (by decide), hc j hj' 4 (by decide), hc j hj' 5 (by decide), hc j hj' 6 (by decide)⟩

/-- A slice literal is a row of the call's own. -/
theorem OwnE.lit {α : Type} (E : En α) (w : World) (l : List α) (t : TypeId) (cs : Array Value) (N : Nat) (hN : N = w.heap.size) (hc : cs.toList = l.flatMap E.cs) (hm : l.length * E.size ≤ maxLen) :
    OwnE E (w.alloc (.cells cs t)) w.heap.size t (.slice (some ⟨N, 0, none⟩) l.length l.length) l := by
  subst hN
  have hs : cs.size = l.length * E.size := by rw [← Array.length_toList, hc, E.flat_len]
  have hp : l.length ≤ l.length * E.size := Nat.le_mul_of_pos_right _ E.pos
  exact ⟨by rw [E.flat_len], .inr ⟨w.heap.size, l.length, cs, rfl, Nat.le_refl _, heap_alloc_new w _, Nat.le_refl _, by omega, hs, by rw [hc, List.take_of_length_le (by rw [E.flat_len]; exact Nat.le_refl _)]⟩⟩

set_option maxRecDepth 100000 in
theorem tright_any (t : Tr) (w : World) : Calls Try.prog 70 #[vTr t] w fun e w' => e = .returned (.bool (sizedT t)) ∧ Grew w w' := by
  obtain ⟨⟨q1, q2, q3, q4, q5, q6⟩, q7⟩ := t
  have HV : Hid (sizedT ((q1, q2, q3, q4, q5, q6), q7) = ((decide (1 ≤ q5) && decide (q5 ≤ 1048576)) && (decide (1 ≤ q6) && decide (q6 ≤ 1073741824)))) := rfl
  generalize sizedT ((q1, q2, q3, q4, q5, q6), q7) = V at *
  dsimp only [vTr]
  by_cases h1 : 1 ≤ q5
  · by_cases h2 : q5 ≤ 1048576
    · by_cases h3 : 1 ≤ q6
      · by_cases h4 : q6 ≤ 1073741824
        all_goals
          (have HF := Lib.hid HV.out
           simp only [h1, h2, h3, h4, decide_true, decide_false, Bool.and_true, Bool.and_false] at HF
           clear HV
           go_enter Try.func70, Try.ntmps70
           go_wp2
           go_ret
           exact ⟨ret_b HF.out.symm, grew_alloc _ _ _⟩)
      · have HF : Hid (V = false) := by show _ = _; rw [HV.out, decide_eq_false h3]; simp
        clear HV
        go_enter Try.func70, Try.ntmps70
        go_wp2
        go_ret
        exact ⟨ret_b HF.out.symm, grew_alloc _ _ _⟩
    · have HF : Hid (V = false) := by show _ = _; rw [HV.out, decide_eq_false h2]; simp
      clear HV
      go_enter Try.func70, Try.ntmps70
      go_wp2
      go_ret
      exact ⟨ret_b HF.out.symm, grew_alloc _ _ _⟩
  · have HF : Hid (V = false) := by show _ = _; rw [HV.out, decide_eq_false h1]; simp
    clear HV
    go_enter Try.func70, Try.ntmps70
    go_wp2
    go_ret
    exact ⟨ret_b HF.out.symm, grew_alloc _ _ _⟩

set_option maxRecDepth 100000 in
theorem rsized_any (t : Tr) (w : World) : Calls Try.prog 63 #[vTr t] w fun e w' => e = .returned (.bool (sizedT t)) ∧ Grew w w' := by
  obtain ⟨⟨q1, q2, q3, q4, q5, q6⟩, q7⟩ := t
  have HV : Hid (sizedT ((q1, q2, q3, q4, q5, q6), q7) = (wi q5 1 1048576 && wi q6 1 1073741824)) := rfl
  have CW1 := fun w => rwithin_any q5 1 1048576 w
  have CW2 := fun w => rwithin_any q6 1 1073741824 w
  generalize sizedT ((q1, q2, q3, q4, q5, q6), q7) = V at *
  generalize wi q5 1 1048576 = R1 at *
  generalize wi q6 1 1073741824 = R2 at *
  dsimp only [vTr]
  cases R1
  · have HF : Hid (V = false) := by show _ = _; rw [HV.out]; rfl
    clear HV
    go_enter Try.func63, Try.ntmps63
    go_wp2_with (go_at_call 36; ((with_reducible refine (CW1 _).mono ?_); rintro e w1 ⟨rfl, rfl⟩))
    go_ret
    exact ⟨ret_b HF.out.symm, grew_alloc _ _ _⟩
  · have HF : Hid (V = R2) := by show _ = _; rw [HV.out]; rfl
    clear HV
    go_enter Try.func63, Try.ntmps63
    go_wp2_with (first
      | (go_at_call 36; ((with_reducible refine (CW1 _).mono ?_); rintro e w1 ⟨rfl, rfl⟩))
      | (go_at_call 36; ((with_reducible refine (CW2 _).mono ?_); rintro e w1 ⟨rfl, rfl⟩)))
    go_ret
    exact ⟨ret_b HF.out.symm, grew_alloc _ _ _⟩
end Go.Proofs.Ytkbmiajgmnfpfaa.NumK
namespace Go.Proofs.Ytkbmiajgmnfpfaa.NumK
open Go.RowKit
set_option linter.unusedVariables false

def LegsPost (t : Tr) (back : Bool) (w : World) (e : Ending) (w' : World) : Prop :=
  ∃ A c, e = .returned (.slice A (legsT t back).length c) ∧ OwnE enPo w' w.heap.size 36 (.slice A (legsT t back).length c) (legsT t back) ∧ Grew w w'
theorem legs_no {t : Tr} (h : sizedT t = false) (back : Bool) : legsT t back = [] := by unfold legsT; rw [h]; rfl
theorem legs_yes {t : Tr} (h : sizedT t = true) (back : Bool) : legsT t back = twoL t (if back then -t.1.2.2.2.2.1 else t.1.2.2.2.2.1) := by unfold legsT; rw [h]; rfl
theorem legs_none {t : Tr} (h : sizedT t = false) (back : Bool) {w : World} (w' : World) (g : Grew w w') : LegsPost t back w (.returned (.slice none 0 0)) w' := by
  refine ⟨none, 0, ?_, ?_, g⟩
  · rw [legs_no h]; rfl
  · rw [legs_no h]; exact OwnE.nil _ _ _ _
theorem legs_two {t : Tr} (h : sizedT t = true) (back : Bool) {w : World} (w1 : World) (g : Grew w w1) (a b c d a' b' c' d' : Int) (N : Nat) (hN : N = w1.heap.size) (hl : twoL t (if back then -t.1.2.2.2.2.1 else t.1.2.2.2.2.1) = [(a, b, c, d), (a', b', c', d')]) :
    LegsPost t back w (.returned (.slice (some ⟨N, 0, none⟩) 2 2)) (w1.alloc (.cells #[.int .i64 a, .int .i64 b, .int .i64 c, .int .i64 d, .int .i64 a', .int .i64 b', .int .i64 c', .int .i64 d'] 36)) := by
  have e := (legs_yes h back).trans hl
  refine ⟨some ⟨N, 0, none⟩, 2, by rw [e]; rfl, ?_, grew_trans g (grew_alloc _ _ _)⟩
  rw [e]
  exact (OwnE.lit enPo w1 [(a, b, c, d), (a', b', c', d')] _ _ N hN rfl (by show 2 * 4 ≤ maxLen; decide)).mono g.size

set_option maxRecDepth 100000 in
set_option maxHeartbeats 1000000 in
theorem plegs_any (t : Tr) (back : Bool) (s : Int) (hs : s = if back then -1 else 1) (w : World) : Calls Try.prog 65 #[vTr t, .int .i64 s] w (LegsPost t back w) := by
  have CR := fun w => tright_any t w
  by_cases h : sizedT t = true
  · have HT := Lib.hid (@legs_two t h back w)
    have HI := Lib.hid ((sizedT_iff t).1 h)
    rw [h] at CR
    obtain ⟨⟨q1, q2, q3, q4, q5, q6⟩, q7⟩ := t
    have HM := Lib.hid (mul_in q5 q6 HI.out)
    obtain ⟨⟨b1, b2⟩, b3, b4⟩ := HI.out
    obtain ⟨m1, m2⟩ := HM.out
    dsimp only [twoL] at HT
    dsimp only at b1 b2 b3 b4
    generalize LegsPost ((q1, q2, q3, q4, q5, q6), q7) back w = PP at *
    dsimp only [vTr] at CR ⊢
    clear h HI HM
    have HX0 : Hid (OwnC (w.alloc (.cells #[.int .i64 q1, .int .i64 q2, .int .i64 q3, .int .i64 q4, .int .i64 q5, .int .i64 q6, .bool q7] 49)) w.heap.size [.int .i64 q1, .int .i64 q2, .int .i64 q3, .int .i64 q4, .int .i64 q5, .int .i64 q6, .bool q7]) := OwnC.new w [.int .i64 q1, .int .i64 q2, .int .i64 q3, .int .i64 q4, .int .i64 q5, .int .i64 q6, .bool q7] _ _ rfl
    cases back
    · simp only [Bool.false_eq_true, if_false] at hs HT
      subst hs
      have e1 : IntKind.i64.wrap (q5 * q6) = q5 * q6 := by rw [IntKind.wrap_i64]; omega
      have e2 : -(q5 * q6) = -q5 * q6 := (Int.neg_mul _ _).symm
      go_enter Try.func65, Try.ntmps65
      go_wp2_with (go_at_call 70; ((with_reducible refine (CR _).mono ?_); rintro e w1 ⟨rfl, hg⟩; have HG := Lib.hid (own_back hg); have HX := Lib.hid (HX0.out.keep hg); have x1 : w1.cell? ⟨w.heap.size, 1, none⟩ = some (.int .i64 q2) := HX.out.at 1 _ rfl; have x2 : w1.cell? ⟨w.heap.size, 2, none⟩ = some (.int .i64 q3) := HX.out.at 2 _ rfl; have x3 : w1.cell? ⟨w.heap.size, 3, none⟩ = some (.int .i64 q4) := HX.out.at 3 _ rfl; have x4 : w1.cell? ⟨w.heap.size, 4, none⟩ = some (.int .i64 q5) := HX.out.at 4 _ rfl; have x5 : w1.cell? ⟨w.heap.size, 5, none⟩ = some (.int .i64 q6) := HX.out.at 5 _ rfl; clear hg))
      go_quiet (fail)
      have HG2 : Hid (Grew w (w1.drewN nq)) := grew_drewN HG.out _
      go_wp2
      refine HT.out _ HG2.out _ _ _ _ _ _ _ _ _ (by simp) ?_
      simp [Int.neg_mul]
    · simp only [if_true] at hs HT
      subst hs
      have e2 : -q5 * q6 = -(q5 * q6) := (Int.neg_mul _ _)
      have e1 : IntKind.i64.wrap (-q5 * q6) = -(q5 * q6) := by rw [IntKind.wrap_i64, e2]; omega
      go_enter Try.func65, Try.ntmps65
      go_wp2_with (go_at_call 70; ((with_reducible refine (CR _).mono ?_); rintro e w1 ⟨rfl, hg⟩; have HG := Lib.hid (own_back hg); have HX := Lib.hid (HX0.out.keep hg); have x1 : w1.cell? ⟨w.heap.size, 1, none⟩ = some (.int .i64 q2) := HX.out.at 1 _ rfl; have x2 : w1.cell? ⟨w.heap.size, 2, none⟩ = some (.int .i64 q3) := HX.out.at 2 _ rfl; have x3 : w1.cell? ⟨w.heap.size, 3, none⟩ = some (.int .i64 q4) := HX.out.at 3 _ rfl; have x4 : w1.cell? ⟨w.heap.size, 4, none⟩ = some (.int .i64 q5) := HX.out.at 4 _ rfl; have x5 : w1.cell? ⟨w.heap.size, 5, none⟩ = some (.int .i64 q6) := HX.out.at 5 _ rfl; clear hg))
      go_quiet (fail)
      have HG2 : Hid (Grew w (w1.drewN nq)) := grew_drewN HG.out _
      go_wp2
      refine HT.out _ HG2.out _ _ _ _ _ _ _ _ _ (by simp) ?_
      simp [Int.neg_mul]
  · simp only [Bool.not_eq_true] at h
    have HT := Lib.hid (@legs_none t h back w)
    rw [h] at CR
    generalize LegsPost t back w = PP at *
    obtain ⟨⟨q1, q2, q3, q4, q5, q6⟩, q7⟩ := t
    dsimp only [vTr] at CR ⊢
    clear h hs
    go_enter Try.func65, Try.ntmps65
    go_wp2_with (go_at_call 70; ((with_reducible refine (CR _).mono ?_); rintro e w1 ⟨rfl, hg⟩; have HG := Lib.hid (own_back hg); clear hg))
    exact HT.out _ HG.out

theorem legs12_any (t : Tr) (w : World) : Calls Try.prog 51 #[vTr t] w (LegsPost t false w) := by
  have CL := fun w => plegs_any t false 1 rfl w
  have HP : Hid (∀ w1 e w', Grew w w1 → LegsPost t false w1 e w' → LegsPost t false w e w') := fun w1 e w' g ⟨A, c, he, ho, hg⟩ => ⟨A, c, he, ho.mono g.size, grew_trans g hg⟩
  generalize hPP : LegsPost t false w = PP at *
  obtain ⟨⟨q1, q2, q3, q4, q5, q6⟩, q7⟩ := t
  dsimp only [vTr] at CL ⊢
  go_enter Try.func51, Try.ntmps51
  go_wp2_with (go_at_call 65; ((with_reducible refine (CL _).mono ?_); rintro e w1 ⟨A, c, rfl, ho, hg⟩; have HF := Lib.hid (HP.out _ _ _ (grew_alloc _ _ _) ⟨A, c, rfl, ho, hg⟩); clear ho hg HP))
  exact HF.out

theorem undo12_any (t : Tr) (w : World) : Calls Try.prog 53 #[vTr t] w (LegsPost t true w) := by
  have CL := fun w => plegs_any t true (-1) rfl w
  have HP : Hid (∀ w1 e w', Grew w w1 → LegsPost t true w1 e w' → LegsPost t true w e w') := fun w1 e w' g ⟨A, c, he, ho, hg⟩ => ⟨A, c, he, ho.mono g.size, grew_trans g hg⟩
  generalize hPP : LegsPost t true w = PP at *
  obtain ⟨⟨q1, q2, q3, q4, q5, q6⟩, q7⟩ := t
  dsimp only [vTr] at CL ⊢
  go_enter Try.func53, Try.ntmps53
  go_wp2_with (go_at_call 65; ((with_reducible refine (CL _).mono ?_); rintro e w1 ⟨A, c, rfl, ho, hg⟩; have HF := Lib.hid (HP.out _ _ _ (grew_alloc _ _ _) ⟨A, c, rfl, ho, hg⟩); clear ho hg HP))
  exact HF.out

end Go.Proofs.Ytkbmiajgmnfpfaa.NumK
namespace Go.Proofs.Ytkbmiajgmnfpfaa.NumK
open Go.RowKit
set_option linter.unusedVariables false

theorem keepKey_yes (a b : Int) (w : World) : Calls Try.prog 40 #[.agg #[.int .i64 a, .int .i64 b], .agg #[.int .i64 a, .int .i64 b]] w fun e w' => e = .returned (.bool true) ∧ Grew w w' := by
  go_enter Try.func40, Try.ntmps40
  go_wp2
  go_ret
  exact ⟨rfl, grew_trans (grew_alloc _ _ _) (grew_alloc _ _ _)⟩
set_option maxRecDepth 100000 in
theorem keepPos_yes (x : Po) (w : World) : Calls Try.prog 15 #[vPo x, vPo x] w fun e w' => e = .returned (.bool true) ∧ Grew w w' := by
  obtain ⟨q1, q2, q3, q4⟩ := x
  dsimp only [vPo]
  have CK := fun w => keepKey_yes q1 q2 w
  have HX0 : Hid (OwnC ((w.alloc (.cells #[.int .i64 q1, .int .i64 q2, .int .i64 q3, .int .i64 q4] 36)).alloc (.cells #[.int .i64 q1, .int .i64 q2, .int .i64 q3, .int .i64 q4] 36)) w.heap.size [.int .i64 q1, .int .i64 q2, .int .i64 q3, .int .i64 q4]) := (OwnC.new w [.int .i64 q1, .int .i64 q2, .int .i64 q3, .int .i64 q4] _ _ rfl).keep (grew_alloc _ _ _)
  have HY0 : Hid (OwnC ((w.alloc (.cells #[.int .i64 q1, .int .i64 q2, .int .i64 q3, .int .i64 q4] 36)).alloc (.cells #[.int .i64 q1, .int .i64 q2, .int .i64 q3, .int .i64 q4] 36)) (w.heap.size + 1) [.int .i64 q1, .int .i64 q2, .int .i64 q3, .int .i64 q4]) := OwnC.new _ [.int .i64 q1, .int .i64 q2, .int .i64 q3, .int .i64 q4] _ _ (by simp)
  go_enter Try.func15, Try.ntmps15
  go_wp2_with (go_at_call 40; ((with_reducible refine (CK _).mono ?_); rintro e w1 ⟨rfl, hg⟩; have HX := Lib.hid (HX0.out.keep hg); have HY := Lib.hid (HY0.out.keep hg); have HG : Hid (Grew w w1) := grew_trans (grew_trans (grew_alloc _ _ _) (grew_alloc _ _ _)) hg; have x2 : w1.cell? ⟨w.heap.size, 2, none⟩ = some (.int .i64 q3) := HX.out.at 2 _ rfl; have x3 : w1.cell? ⟨w.heap.size, 3, none⟩ = some (.int .i64 q4) := HX.out.at 3 _ rfl; have y2 : w1.cell? ⟨w.heap.size + 1, 2, none⟩ = some (.int .i64 q3) := HY.out.at 2 _ rfl; have y3 : w1.cell? ⟨w.heap.size + 1, 3, none⟩ = some (.int .i64 q4) := HY.out.at 3 _ rfl; clear hg HX0 HY0))
  go_ret
  exact ⟨rfl, HG.out⟩
set_option maxRecDepth 100000 in
set_option maxHeartbeats 1000000 in
theorem keepPoss_yes (A B : Option Addr) (n c d : Nat) (l : List Po) (w : World) (h : RowE enPo w A n l) (h2 : RowE enPo w B n l) (hn : n ≤ 1000000) :
    Calls Try.prog 27 #[.slice A n c, .slice B n d] w fun e w' => e = .returned (.bool true) ∧ Grew w w' := by
  have HI := Lib.hid h
  have HJ := Lib.hid h2
  clear h h2
  go_enter Try.func27, Try.ntmps27
  go_wp2
  go_loopw [5] (fun v wr => ∃ j : Nat, v = .int .i64 j ∧ j ≤ n ∧ Hid (Grew w wr)) (fun v _ => n - (intOf v).toNat)
  case atStart => exact ⟨0, rfl, by omega, grew_refl _⟩
  case round =>
    obtain ⟨j, rfl, hj, HG⟩ := hrel
    by_cases hlt : j < n
    · obtain ⟨b, o, rfl, hb, hc⟩ := (HI.out.keep HG.out).po hlt
      obtain ⟨b2, o2, rfl, hb2, hc2⟩ := (HJ.out.keep HG.out).po hlt
      obtain ⟨a0, a1, a2, a3⟩ := hc j hlt
      obtain ⟨e0, e1, e2, e3⟩ := hc2 j hlt
      clear hc hc2
      have i0 : (0 : Int) ≤ (j : Int) := by omega
      have i1 : (j : Int) < (n : Int) := by omega
      have CK := fun w => keepPos_yes (l.getD j po0) w
      generalize l.getD j po0 = x at *
      obtain ⟨q1, q2, q3, q4⟩ := x
      dsimp only at a0 a1 a2 a3  e0 e1 e2 e3 
      dsimp only [vPo] at CK
      have x0 : ∀ p : GrewTo wr, p.to.cell? ⟨b, o + j * 4, none⟩ = _ := fun p => (grew_cell p.h (p := ⟨b, _, none⟩) hb).trans a0; have x1 : ∀ p : GrewTo wr, p.to.cell? ⟨b, o + j * 4 + 1, none⟩ = _ := fun p => (grew_cell p.h (p := ⟨b, _, none⟩) hb).trans a1; have x2 : ∀ p : GrewTo wr, p.to.cell? ⟨b, o + j * 4 + 2, none⟩ = _ := fun p => (grew_cell p.h (p := ⟨b, _, none⟩) hb).trans a2; have x3 : ∀ p : GrewTo wr, p.to.cell? ⟨b, o + j * 4 + 3, none⟩ = _ := fun p => (grew_cell p.h (p := ⟨b, _, none⟩) hb).trans a3
      have y0 : ∀ p : GrewTo wr, p.to.cell? ⟨b2, o2 + j * 4, none⟩ = _ := fun p => (grew_cell p.h (p := ⟨b2, _, none⟩) hb2).trans e0; have y1 : ∀ p : GrewTo wr, p.to.cell? ⟨b2, o2 + j * 4 + 1, none⟩ = _ := fun p => (grew_cell p.h (p := ⟨b2, _, none⟩) hb2).trans e1; have y2 : ∀ p : GrewTo wr, p.to.cell? ⟨b2, o2 + j * 4 + 2, none⟩ = _ := fun p => (grew_cell p.h (p := ⟨b2, _, none⟩) hb2).trans e2; have y3 : ∀ p : GrewTo wr, p.to.cell? ⟨b2, o2 + j * 4 + 3, none⟩ = _ := fun p => (grew_cell p.h (p := ⟨b2, _, none⟩) hb2).trans e3
      clear a0 a1 a2 a3  e0 e1 e2 e3  hb hb2
      go_wp2_with fail
      refine wp_region_grew (by kernel_rfl) (by kernel_rfl) ?_
      repeat (go_big_quiet_step (with_reducible exact calls_grew (CK _)))
      refine wpQuiet_nil ?_
      intro w5 hw'
      have HG5 := Lib.hid (grew_of hw')
      clear hw' x0 x1 x2 x3  y0 y1 y2 y3 
      go_wp2
      go_roundw
      case rel => exact ⟨j + 1, by go_num, by omega, grew_trans HG.out HG5.out⟩
      case measure => simp only [intOf]; omega
    · obtain rfl : j = n := by omega
      go_wp2
      go_ret
      exact ⟨rfl, HG.out⟩

/-- Positions written over: only their own block is turned. -/
theorem spoilPoss_any (A : Option Addr) (n c base : Nat) (w : World) (hA : n = 0 ∨ ∃ g, A = some ⟨g, 0, none⟩ ∧ base ≤ g ∧ Slab w g (n * 4)) (hn : n ≤ 1000000) :
    Calls Try.prog 47 #[.slice A n c] w fun e w' => e = .returned (.tuple #[]) ∧ Below base w w' ∧ ∀ k, A.map (·.block) ≠ some k → w'.heap[k]? = w.heap[k]? := by
  have HA := Lib.hid hA
  clear hA
  go_enter Try.func47, Try.ntmps47
  go_wp2
  go_loopw [2] (fun vi wr => ∃ k : Nat, vi = .int .i64 k ∧ k ≤ n ∧ Hid (∀ g, A = some ⟨g, 0, none⟩ → 0 < n → Slab wr g (n * 4)) ∧ Hid (Below base w wr ∧ ∀ k, A.map (·.block) ≠ some k → wr.heap[k]? = w.heap[k]?)) (fun vi _ => n - (intOf vi).toNat)
  case atStart =>
    refine ⟨0, rfl, Nat.zero_le _, fun g hg h0 => ?_, Below.refl _ _, fun _ _ => rfl⟩
    rcases HA.out with h | ⟨g', e, _, hs⟩
    · omega
    · rw [hg] at e; cases e; exact hs
  case round =>
    obtain ⟨k, rfl, hk, HS, HB⟩ := hrel
    by_cases hlt : k < n
    · obtain ⟨g, rfl, hb, _⟩ : ∃ g, A = some ⟨g, 0, none⟩ ∧ base ≤ g ∧ Slab w g (n * 4) := by
        rcases HA.out with h | h
        · omega
        · exact h
      have HS2 := Lib.hid (HS.out g rfl (by omega))
      obtain ⟨⟨x, a1⟩, a2⟩ := HS2.out.2 (k * 4) (by omega)
      have a3 : (k : Int) < (n : Int) := by omega
      have HB2 : Hid (Below base w (wr.setCell ⟨g, k * 4, none⟩ (.int .i64 (-77))) ∧ ∀ i, (some (⟨g, 0, none⟩ : Addr)).map (·.block) ≠ some i → (wr.setCell ⟨g, k * 4, none⟩ (.int .i64 (-77))).heap[i]? = w.heap[i]?) :=
        ⟨Below.setCell HB.out.1 hb _, fun i hi => (Below.heap_setCell _ _ _ _ (by intro e; apply hi; rw [e]; rfl)).trans (HB.out.2 i hi)⟩
      have HS3 := Lib.hid (HS2.out.set g (k * 4) (.int .i64 (-77)))
      go_wp2
      go_roundw
      case rel => exact ⟨k + 1, by go_num, by omega, fun g' hg' _ => by cases hg'; exact HS3.out, HB2⟩
      case measure => simp only [intOf]; omega
    · go_wp2
      go_end0
      exact ⟨rfl, HB.out⟩

end Go.Proofs.Ytkbmiajgmnfpfaa.NumK
namespace Go.Proofs.Ytkbmiajgmnfpfaa.NumK
open Go.RowKit
set_option linter.unusedVariables false

def qtys (l : List Po) : List Int := l.map (·.2.2.1)
def csts (l : List Po) : List Int := l.map (·.2.2.2)
theorem qtys_len (l : List Po) : (qtys l).length = l.length := by simp [qtys]
theorem csts_len (l : List Po) : (csts l).length = l.length := by simp [csts]
theorem qtys_succ (l : List Po) (j : Nat) (h : j < l.length) : qtys (l.take (j + 1)) = qtys (l.take j) ++ [(l.getD j po0).2.2.1] := by
  unfold qtys; rw [List.take_succ_eq_append_getElem h, List.map_append, getD_at l po0 j h]; rfl
theorem csts_succ (l : List Po) (j : Nat) (h : j < l.length) : csts (l.take (j + 1)) = csts (l.take j) ++ [(l.getD j po0).2.2.2] := by
  unfold csts; rw [List.take_succ_eq_append_getElem h, List.map_append, getD_at l po0 j h]; rfl
theorem okAm_all (l : List Po) : l.all okAm = ((qtys l).all isMoney && (csts l).all isMoney) := by
  induction l with
  | nil => rfl
  | cons x l ih =>
    rw [List.all_cons, ih]
    show (isMoney x.2.2.1 && isMoney x.2.2.2 && _) = ((isMoney x.2.2.1 && (qtys l).all isMoney) && (isMoney x.2.2.2 && (csts l).all isMoney))
    cases isMoney x.2.2.1 <;> cases isMoney x.2.2.2 <;> simp
theorem ok_succ (l : List Po) (j : Nat) (h : j < l.length) : (l.take (j + 1)).all okAm = ((l.take j).all okAm && okAm (l.getD j po0)) := by
  rw [List.take_succ_eq_append_getElem h, List.all_append, getD_at l po0 j h]; simp
theorem ok_not (l : List Po) (j : Nat) (h : j < l.length) (hx : okAm (l.getD j po0) = false) : l.all okAm = false := by
  rw [List.all_eq_false]
  exact ⟨_, getD_mem l po0 j h, by rw [hx]; decide⟩
theorem money_in (zs : List Int) (h : zs.all isMoney = true) : ∀ z ∈ zs, -9223372036854775808 ≤ z ∧ z ≤ 9223372036854775807 := fun z hz => by
  have := (isMoney_iff z).1 ((List.all_eq_true.1 h) z hz); omega

/-- What the sums tell. -/
def SumPost (l : List Po) (w : World) (e : Ending) (w' : World) : Prop := e = .returned (.tuple #[.int .i64 (sumPQ l), .int .i64 (sumPC l), .int .i64 (sumPE l)]) ∧ Grew w w'
theorem sumP_arg {l : List Po} (h : l.all okAm = false) : sumPE l = 3 ∧ sumPQ l = 0 ∧ sumPC l = 0 := by
  have : sumPE l = 3 := by unfold sumPE; rw [h]; rfl
  refine ⟨this, ?_, ?_⟩
  · unfold sumPQ; rw [this]; rfl
  · unfold sumPC; rw [this]; rfl
theorem sumP_big {l : List Po} (h : l.all okAm = true) (h2 : (isMoney (qtys l).sum && isMoney (csts l).sum) = false) : sumPE l = 1 ∧ sumPQ l = 0 ∧ sumPC l = 0 := by
  have : sumPE l = 1 := by unfold sumPE; rw [if_pos h]; show (if (isMoney (qtys l).sum && isMoney (csts l).sum) = true then (0 : Int) else 1) = 1; rw [h2]; rfl
  refine ⟨this, ?_, ?_⟩
  · unfold sumPQ; rw [this]; rfl
  · unfold sumPC; rw [this]; rfl
theorem sumP_ok {l : List Po} (h : l.all okAm = true) (h2 : isMoney (qtys l).sum = true) (h3 : isMoney (csts l).sum = true) : sumPE l = 0 ∧ sumPQ l = (qtys l).sum ∧ sumPC l = (csts l).sum := by
  have : sumPE l = 0 := by unfold sumPE; rw [if_pos h]; show (if (isMoney (qtys l).sum && isMoney (csts l).sum) = true then (0 : Int) else 1) = 0; rw [h2, h3]; rfl
  refine ⟨this, ?_, ?_⟩
  · unfold sumPQ; rw [if_pos this]; rfl
  · unfold sumPC; rw [if_pos this]; rfl
theorem post_arg {l : List Po} (h : l.all okAm = false) (w w' : World) (g : Grew w w') : SumPost l w (.returned (.tuple #[.int .i64 0, .int .i64 0, .int .i64 3])) w' := by
  obtain ⟨h1, h2, h3⟩ := sumP_arg h
  exact ⟨by rw [h1, h2, h3], g⟩
theorem post_big {l : List Po} (h : l.all okAm = true) (h2 : (isMoney (qtys l).sum && isMoney (csts l).sum) = false) (w w' : World) (g : Grew w w') : SumPost l w (.returned (.tuple #[.int .i64 0, .int .i64 0, .int .i64 1])) w' := by
  obtain ⟨h1, h2, h3⟩ := sumP_big h h2
  exact ⟨by rw [h1, h2, h3], g⟩
theorem post_ok {l : List Po} (h : l.all okAm = true) (h2 : isMoney (qtys l).sum = true) (h3 : isMoney (csts l).sum = true) (w w' : World) (g : Grew w w') : SumPost l w (.returned (.tuple #[.int .i64 (qtys l).sum, .int .i64 (csts l).sum, .int .i64 0])) w' := by
  obtain ⟨h1, h2, h3⟩ := sumP_ok h h2 h3
  exact ⟨by rw [h1, h2, h3], g⟩

end Go.Proofs.Ytkbmiajgmnfpfaa.NumK
namespace Go.Proofs.Ytkbmiajgmnfpfaa.NumK
open Go.RowKit
set_option linter.unusedVariables false

set_option maxRecDepth 100000 in
set_option maxHeartbeats 4000000 in
theorem psumP_any (A : Option Addr) (n c : Nat) (l : List Po) (w : World) (h : RowE enPo w A n l) (hn : n ≤ 100000) :
    Calls Try.prog 29 #[.slice A n c] w (SumPost l w) := by
  have HI := Lib.hid h
  have HL := Lib.hid h.len
  have HN := Lib.hid (@post_arg l)
  have HB := Lib.hid (@post_big l)
  have HY := Lib.hid (@post_ok l)
  clear h
  generalize hPP : SumPost l w = PP at *
  replace HN : Hid (l.all okAm = false → ∀ w', Grew w w' → PP (.returned (.tuple #[.int .i64 0, .int .i64 0, .int .i64 3])) w') := fun h w' g => hPP ▸ HN.out h w w' g
  replace HB : Hid (l.all okAm = true → (isMoney (qtys l).sum && isMoney (csts l).sum) = false → ∀ w', Grew w w' → PP (.returned (.tuple #[.int .i64 0, .int .i64 0, .int .i64 1])) w') := fun h h2 w' g => hPP ▸ HB.out h h2 w w' g
  replace HY : Hid (l.all okAm = true → isMoney (qtys l).sum = true → isMoney (csts l).sum = true → ∀ w', Grew w w' → PP (.returned (.tuple #[.int .i64 (qtys l).sum, .int .i64 (csts l).sum, .int .i64 0])) w') := fun h h2 h3 w' g => hPP ▸ HY.out h h2 h3 w w' g
  clear hPP
  go_enter Try.func29, Try.ntmps29
  go_wp2
  go_loopw [5, 6, 13] (fun va vb vi wr => ∃ j : Nat, vi = .int .i64 j ∧ j ≤ n ∧ Hid (Two enInt enInt wr w.heap.size 3 3 va vb (qtys (l.take j)) (csts (l.take j))) ∧ Hid (Grew w wr)) (fun _ _ vi _ => n - (intOf vi).toNat)
  case atStart => exact ⟨0, rfl, by omega, Two.nil _ _ _ _ _ _, grew_refl _⟩
  case round =>
    obtain ⟨j, rfl, hj, HT, HG⟩ := hrel
    by_cases hlt : j < n
    · have hjl : j < l.length := by rw [HL.out]; exact hlt
      obtain ⟨b, o, rfl, hb, hc⟩ := HI.out.po hlt
      have HCP : Hid (∀ w', Grew w w' → CPo w' b (o + j * 4) (l.getD j po0)) := fun w' g => (hc j hlt).keep g hb
      obtain ⟨a0, a1, a2, a3⟩ := HCP.out _ HG.out
      clear hc hb
      have HQ := Lib.hid (qtys_succ l j hjl)
      have HC := Lib.hid (csts_succ l j hjl)
      have HLQ : Hid ((qtys (l.take j)).length = j) := by show _ = _; rw [qtys_len, List.length_take]; omega
      have HLC : Hid ((csts (l.take j)).length = j) := by show _ = _; rw [csts_len, List.length_take]; omega
      have i0 : (0 : Int) ≤ (j : Int) := by omega
      have i1 : (j : Int) < (n : Int) := by omega
      generalize l.getD j po0 = x at *
      obtain ⟨q1, q2, q3, q4⟩ := x
      dsimp only at a0 a1 a2 a3 HQ HC
      clear HN HB HY HCP
      go_wp2
      have HG0 : Hid (Grew w (wr.alloc (.cells #[.int .i64 q1, .int .i64 q2, .int .i64 q3, .int .i64 q4] 36))) := grew_trans HG.out (grew_alloc _ _ _)
      have HX0 : Hid (OwnC (wr.alloc (.cells #[.int .i64 q1, .int .i64 q2, .int .i64 q3, .int .i64 q4] 36)) wr.heap.size [.int .i64 q1, .int .i64 q2, .int .i64 q3, .int .i64 q4]) := OwnC.new wr [.int .i64 q1, .int .i64 q2, .int .i64 q3, .int .i64 q4] _ _ rfl
      have HT0 := Lib.hid (HT.out.keep (grew_alloc wr #[.int .i64 q1, .int .i64 q2, .int .i64 q3, .int .i64 q4] 36))
      have HF0 := Lib.hid (HT.out.far (Nat.le_refl _))
      generalize wr.alloc (.cells #[.int .i64 q1, .int .i64 q2, .int .i64 q3, .int .i64 q4] 36) = w0 at *
      have x2 : w0.cell? ⟨wr.heap.size, 2, none⟩ = some (.int .i64 q3) := HX0.out.at 2 _ rfl
      have x3 : w0.cell? ⟨wr.heap.size, 3, none⟩ = some (.int .i64 q4) := HX0.out.at 3 _ rfl
      have hN0 : wr.heap.size < w0.heap.size := HX0.out.lt
      have HS0 := Lib.hid HG0.out.size
      clear a0 a1 a2 a3 HX0 HT HG
      generalize wr.heap.size = N0 at *
      go_region_law (first
        | (refine step_two (E := enInt) (F := enInt) (s := 3) (t := 3) (base := w.heap.size) rfl _ _ 63 (.int .i64 0) 8 rfl Try.underlying63 info_int1 rfl (HT0.out.keep (by repeat (first | exact grew_refl _ | refine grew_drew ?_ | refine grew_trans ?_ (grew_alloc _ _ _)))) rfl _ q3 rfl (by first | exact (RowE.one1 enInt _ _ _ _ _ (by simp) rfl).keep (grew_drew (grew_refl _)) | exact (RowE.one1 enInt _ _ _ _ _ (by simp) rfl).keep (grew_drew (grew_alloc _ _ _))) (by rw [HLQ.out]; unfold maxLen; omega) (by rw [HLQ.out]; omega) (by simp; have := HS0.out; omega) ?_; intro v1 w1 ht hb hg; have HT1 := Lib.hid ht; have HG1 : Hid (Grew w w1) := Below.trans (grew_trans HG0.out (by repeat (first | exact grew_refl _ | refine grew_drew ?_ | refine grew_trans ?_ (grew_alloc _ _ _)))) hb; have HL1 : Hid (∀ N, RowE enInt _ (some ⟨N, 0, none⟩) 1 [q4] → w0.heap.size ≤ N → RowE enInt w1 (some ⟨N, 0, none⟩) 1 [q4]) := fun N h hN => h.grown hg (HT0.out.far hN).1; have y3 : w1.cell? ⟨N0, 3, none⟩ = some (.int .i64 q4) := (hg.cell_far ⟨N0, 3, none⟩ (by simp; omega) HF0.out.1).trans ((grew_cell (w := w0) (by repeat (first | exact grew_refl _ | refine grew_drew ?_ | refine grew_trans ?_ (grew_alloc _ _ _))) (p := ⟨N0, 3, none⟩) hN0).trans x3); clear ht hb hg)
        | (refine step_two (E := enInt) (F := enInt) (s := 3) (t := 3) (base := w.heap.size) rfl _ _ 63 (.int .i64 0) 8 rfl Try.underlying63 info_int1 rfl (HT1.out.swap.keep (by repeat (first | exact grew_refl _ | refine grew_drew ?_ | refine grew_trans ?_ (grew_alloc _ _ _)))) rfl _ q4 rfl (by first | exact RowE.one1 enInt _ _ _ _ _ (by simp) rfl | exact HL1.out _ ((RowE.one1 enInt _ _ _ _ _ (by simp) rfl).keep (grew_drew (grew_refl _))) (by simp) | exact HL1.out _ ((RowE.one1 enInt _ _ _ _ _ (by simp) rfl).keep (grew_drew (grew_alloc _ _ _))) (by simp)) (by rw [HLC.out]; unfold maxLen; omega) (by rw [HLC.out]; omega) (by first | exact HG1.out.size | (simp; have := HG1.out.size; omega)) ?_; intro v2 w2 ht hb hg; have HT2 := Lib.hid ht.swap; have HG2 : Hid (Grew w w2) := Below.trans (grew_trans HG1.out (by repeat (first | exact grew_refl _ | refine grew_drew ?_ | refine grew_trans ?_ (grew_alloc _ _ _)))) hb; clear ht hb hg))
      all_goals (
        go_wp2
        go_roundw
        case rel => exact ⟨j + 1, by go_num, by omega, (by rw [HQ.out, HC.out]; exact HT2.out), HG2.out⟩
        case measure => simp only [intOf]; omega)
    · obtain rfl : j = n := by omega
      have ht : l.take j = l := List.take_of_length_le (by rw [HL.out]; exact Nat.le_refl _)
      rw [ht] at HT
      obtain ⟨A3, c3, hv3, hr3, -, -, -⟩ := HT.out.a.form
      obtain ⟨A4, c4, hv4, hr4, -, -, -⟩ := HT.out.b.form
      rw [qtys_len, HL.out] at hv3 hr3
      rw [csts_len, HL.out] at hv4 hr4
      subst hv3 hv4
      have hok := okAm_all l
      have CR1 := fun w' (g : Grew wr w') => right_any A3 j c3 (qtys l) w' (ints_of_E (hr3.keep g)) (by omega)
      have CR2 := fun w' (g : Grew wr w') => right_any A4 j c4 (csts l) w' (ints_of_E (hr4.keep g)) (by omega)
      replace CR1 := CR1 wr (grew_refl _)
      replace CR2 := CR2 wr (grew_refl _)
      have CS1 := sum_any A3 j c3 (qtys l) wr (ints_of_E hr3) (by omega)
      have CS2 := fun w' (g : Grew wr w') => sum_any A4 j c4 (csts l) w' (ints_of_E (hr4.keep g)) (by omega)
      have HV1 : Hid ((qtys l).all isMoney = true → sumV (qtys l) = capV (qtys l).sum ∧ sumE (qtys l) = capE (qtys l).sum) := fun h => ⟨sumV_in h, sumE_in h⟩
      have HV2 : Hid ((csts l).all isMoney = true → sumV (csts l) = capV (csts l).sum ∧ sumE (csts l) = capE (csts l).sum) := fun h => ⟨sumV_in h, sumE_in h⟩
      have HU1 : Hid (isMoney (qtys l).sum = true → capV (qtys l).sum = (qtys l).sum ∧ capE (qtys l).sum = 0) := fun h => ⟨capV_in h, capE_in h⟩
      have HU2 : Hid (isMoney (csts l).sum = true → capV (csts l).sum = (csts l).sum ∧ capE (csts l).sum = 0) := fun h => ⟨capV_in h, capE_in h⟩
      have HW1 : Hid (isMoney (qtys l).sum = false → capE (qtys l).sum = 1) := fun h => capE_out h
      have HW2 : Hid (isMoney (csts l).sum = false → capE (csts l).sum = 1) := fun h => capE_out h
      clear HT hr3 hr4 ht
      have HOK := Lib.hid hok
      clear hok
      generalize l.all okAm = OKL at *
      generalize (qtys l).all isMoney = R1 at *
      generalize (csts l).all isMoney = R2 at *
      generalize sumV (qtys l) = SV1 at *
      generalize sumV (csts l) = SV2 at *
      generalize sumE (qtys l) = SE1 at *
      generalize sumE (csts l) = SE2 at *
      generalize (qtys l).sum = Sq at *
      generalize (csts l).sum = Sc at *
      generalize capV Sq = Vq at *
      generalize capV Sc = Vc at *
      generalize capE Sq = Eq at *
      generalize capE Sc = Ec at *
      generalize isMoney Sq = M1 at *
      generalize isMoney Sc = M2 at *
      cases R1
      · have HF := Lib.hid (HN.out (by rw [HOK.out]; rfl) _ HG.out)
        clear HN HB HY HOK HV1 HV2 HU1 HU2 HW1 HW2 CS1 CS2 CR2
        go_wp2_with (go_at_call 54; ((with_reducible refine (CR1.mono ?_)); rintro e w1 ⟨rfl, rfl⟩))
        go_ret3
        exact HF.out
      · cases R2
        · have HF := Lib.hid (HN.out (by rw [HOK.out]; rfl) _ HG.out)
          clear HN HB HY HOK HV1 HV2 HU1 HU2 HW1 HW2 CS1 CS2
          go_wp2_with (first | (go_at_call 54; ((with_reducible refine (CR1.mono ?_)); rintro e w1 ⟨rfl, rfl⟩)) | (go_at_call 54; ((with_reducible refine (CR2.mono ?_)); rintro e w1 ⟨rfl, rfl⟩)))
          go_ret3
          exact HF.out
        · have hOK : OKL = true := by rw [HOK.out]; rfl
          have HB2 := Lib.hid (HB.out hOK)
          have HY2 := Lib.hid (HY.out hOK)
          obtain ⟨rfl, rfl⟩ := HV1.out rfl
          obtain ⟨rfl, rfl⟩ := HV2.out rfl
          clear HN HB HY HOK hOK HV1 HV2
          cases M1
          · obtain rfl := HW1.out rfl
            have HF := Lib.hid (HB2.out rfl)
            clear HB2 HY2 HU1 HU2 HW1 HW2
            go_wp2_with (first | (go_at_call 54; ((with_reducible refine (CR1.mono ?_)); rintro e w1 ⟨rfl, rfl⟩)) | (go_at_call 54; ((with_reducible refine (CR2.mono ?_)); rintro e w1 ⟨rfl, rfl⟩)) | (go_at_call 55; ((with_reducible refine (CS1.mono ?_)); rintro e w2 ⟨rfl, hg⟩; have HG1 := Lib.hid hg; clear hg)) | (go_at_call 55; ((with_reducible refine (CS2 _ HG1.out).mono ?_); rintro e w3 ⟨rfl, hg⟩; have HG2 := Lib.hid (grew_trans HG1.out hg); clear hg)))
            go_ret3
            exact HF.out _ (grew_trans HG.out HG2.out)
          · obtain ⟨rfl, rfl⟩ := HU1.out rfl
            cases M2
            · obtain rfl := HW2.out rfl
              have HF := Lib.hid (HB2.out rfl)
              clear HB2 HY2 HU1 HU2 HW1 HW2
              go_wp2_with (first | (go_at_call 54; ((with_reducible refine (CR1.mono ?_)); rintro e w1 ⟨rfl, rfl⟩)) | (go_at_call 54; ((with_reducible refine (CR2.mono ?_)); rintro e w1 ⟨rfl, rfl⟩)) | (go_at_call 55; ((with_reducible refine (CS1.mono ?_)); rintro e w2 ⟨rfl, hg⟩; have HG1 := Lib.hid hg; clear hg)) | (go_at_call 55; ((with_reducible refine (CS2 _ HG1.out).mono ?_); rintro e w3 ⟨rfl, hg⟩; have HG2 := Lib.hid (grew_trans HG1.out hg); clear hg)))
              go_ret3
              exact HF.out _ (grew_trans HG.out HG2.out)
            · obtain ⟨rfl, rfl⟩ := HU2.out rfl
              have HF := Lib.hid (HY2.out rfl rfl)
              clear HB2 HY2 HU1 HU2 HW1 HW2
              go_wp2_with (first | (go_at_call 54; ((with_reducible refine (CR1.mono ?_)); rintro e w1 ⟨rfl, rfl⟩)) | (go_at_call 54; ((with_reducible refine (CR2.mono ?_)); rintro e w1 ⟨rfl, rfl⟩)) | (go_at_call 55; ((with_reducible refine (CS1.mono ?_)); rintro e w2 ⟨rfl, hg⟩; have HG1 := Lib.hid hg; clear hg)) | (go_at_call 55; ((with_reducible refine (CS2 _ HG1.out).mono ?_); rintro e w3 ⟨rfl, hg⟩; have HG2 := Lib.hid (grew_trans HG1.out hg); clear hg)))
              go_ret3
              exact HF.out _ (grew_trans HG.out HG2.out)
end Go.Proofs.Ytkbmiajgmnfpfaa.NumK
