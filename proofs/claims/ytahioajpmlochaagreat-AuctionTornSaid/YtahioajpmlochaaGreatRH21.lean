/- book.standing; rows written in one place. -/
import Derived.Test.YtahioajpmlochaaGreatRH15
import Derived.Test.YtahioajpmlochaaGreatRH7
import Derived.Test.YtahioajpmlochaaGreatRH12
import Derived.BigQuiet
namespace Go.Proofs.YtahioajpmlochaaGreat.NumK
open Go.RowKit
set_option linter.unusedVariables false

/-- Where the trade with a number stands that is not off; -1: nowhere. -/
def ixT (l : List Tr) (no : Int) : Option Nat := l.findIdx? (liveT no)
def ixV (l : List Tr) (no : Int) : Int := match ixT l no with | some i => (i : Int) | none => -1
theorem ixT_at {l : List Tr} {no : Int} (j : Nat) (h : j < l.length) (h0 : ∀ i, i < j → liveT no (l.getD i tr0) = false) (h1 : liveT no (l.getD j tr0) = true) : ixT l no = some j := by
  unfold ixT
  rw [List.findIdx?_eq_some_iff_getElem]
  refine ⟨h, by rw [← getD_at l tr0 j h]; exact h1, fun i hi => ?_⟩
  have := h0 i hi
  rw [getD_at l tr0 i (by omega)] at this
  rw [this]; decide
theorem ixT_no {l : List Tr} {no : Int} (h0 : ∀ i, i < l.length → liveT no (l.getD i tr0) = false) : ixT l no = none := by
  unfold ixT
  rw [List.findIdx?_eq_none_iff]
  intro x hx
  obtain ⟨i, hi, rfl⟩ := List.getElem_of_mem hx
  rw [← getD_at l tr0 i hi]; exact h0 i hi
theorem ixT_some {l : List Tr} {no : Int} {i : Nat} (h : ixT l no = some i) : i < l.length ∧ liveT no (l.getD i tr0) = true ∧ theT l no = l.getD i tr0 ∧ l.any (liveT no) = true := by
  unfold ixT at h
  rw [List.findIdx?_eq_some_iff_getElem] at h
  obtain ⟨h1, h2, h3⟩ := h
  refine ⟨h1, by rw [getD_at l tr0 i h1]; exact h2, ?_, List.any_eq_true.2 ⟨_, List.getElem_mem h1, h2⟩⟩
  unfold theT
  have e : l.find? (liveT no) = some l[i] := by
    rw [List.find?_eq_some_iff_getElem]
    exact ⟨h2, i, h1, rfl, fun j hj => by have := h3 j hj; simpa using this⟩
  rw [e, getD_at l tr0 i h1]; rfl
theorem ixT_none {l : List Tr} {no : Int} (h : ixT l no = none) : l.any (liveT no) = false := by
  unfold ixT at h
  rw [List.findIdx?_eq_none_iff] at h
  rw [List.any_eq_false]
  intro x hx he
  rw [h x hx] at he; cases he
/-- Of a right row just one is turned. -/
theorem off_set {l : List Tr} {no : Int} {i : Nat} (hr : Rise noTr l) (h : ixT l no = some i) : l.set i ((l.getD i tr0).1, true) = offL l no := by
  obtain ⟨h1, h2, -, -⟩ := ixT_some h
  unfold offL
  refine List.ext_getElem (by simp) fun j hj hj2 => ?_
  rw [List.getElem_map]
  have hjl : j < l.length := by rw [List.length_set] at hj; exact hj
  by_cases e : j = i
  · subst e
    rw [List.getElem_set_self, ← getD_at l tr0 j hjl]
    unfold offT; rw [if_pos h2]
  · rw [List.getElem_set_ne (Ne.symm e)]
    unfold offT
    rw [if_neg]
    intro h3
    have h4 := ((liveT_iff _ _).1 h3).1
    have h5 := ((liveT_iff _ _).1 h2).1
    rw [getD_at l tr0 i h1] at h5
    have hp := List.pairwise_iff_getElem.1 hr
    rcases Nat.lt_or_ge j i with c | c
    · have := hp j i hjl h1 c
      unfold noTr at this; omega
    · have := hp i j h1 hjl (by omega)
      unfold noTr at this; omega

set_option maxRecDepth 100000 in
theorem live_any (t : Tr) (no : Int) (N : Nat) (w : World) (hb : N < w.heap.size) (hN : w.cell? ⟨N, 0, none⟩ = some (.int .i64 no)) :
    Calls Tryz.prog 81 #[vTr t, .pointer (some ⟨N, 0, none⟩)] w fun e w' => e = .returned (.bool (liveT no t)) ∧ Grew w w' := by
  have HV : Hid (liveT no t = (decide (t.1.1 = no) && !t.2)) := rfl
  generalize liveT no t = V at *
  obtain ⟨⟨q1, q2, q3, q4, q5, q6⟩, q7⟩ := t
  dsimp only at HV
  dsimp only [vTr]
  have c0 := (grew_cell (grew_alloc w #[.int .i64 q1, .int .i64 q2, .int .i64 q3, .int .i64 q4, .int .i64 q5, .int .i64 q6, .bool q7] 50) (p := ⟨N, 0, none⟩) hb).trans hN
  by_cases h1 : q1 = no
  · have HF : Hid (V = !q7) := by show _ = _; rw [HV.out, decide_eq_true h1]; rfl
    subst h1
    clear HV
    go_enter Tryz.func81, Tryz.ntmps81
    go_wp2
    go_ret
    exact ⟨ret_b HF.out.symm, grew_alloc _ _ _⟩
  · have HF : Hid (V = false) := by show _ = _; rw [HV.out, decide_eq_false h1]; rfl
    have d1 : (q1 == no) = false := by simpa using h1
    clear HV h1
    go_enter Tryz.func81, Tryz.ntmps81
    go_wp2
    go_ret
    exact ⟨ret_b HF.out.symm, grew_alloc _ _ _⟩

set_option maxRecDepth 100000 in
set_option maxHeartbeats 2000000 in
theorem index_any (A : Option Addr) (n c : Nat) (l : List Tr) (no : Int) (N : Nat) (w : World) (h : RowE enTr w A n l) (hn : n ≤ 1000000) (hb : N < w.heap.size) (hN : w.cell? ⟨N, 0, none⟩ = some (.int .i64 no)) :
    Calls Tryz.prog 80 #[.slice A n c, .func (.func 81) #[] #[.pointer (some ⟨N, 0, none⟩)]] w fun e w' => e = .returned (.int .i64 (ixV l no)) ∧ Grew w w' := by
  have HI := Lib.hid h
  have HL := Lib.hid h.len
  have CC := fun w' (g : Grew w w') x => live_any x no N w' (Nat.lt_of_lt_of_le hb g.size) ((grew_cell g (p := ⟨N, 0, none⟩) hb).trans hN)
  have HYES : Hid (∀ j, j < n → (∀ i, i < j → liveT no (l.getD i tr0) = false) → liveT no (l.getD j tr0) = true → ixV l no = (j : Int)) := fun j hj h0 h1 => by
    unfold ixV; rw [ixT_at j (by rw [h.len]; exact hj) h0 h1]
  have HNO : Hid ((∀ i, i < n → liveT no (l.getD i tr0) = false) → ixV l no = -1) := fun h0 => by
    unfold ixV; rw [ixT_no (by rw [h.len]; exact h0)]
  generalize ixV l no = V at *
  dsimp only [vTr] at CC
  clear h hb hN
  go_enter Tryz.func80, Tryz.ntmps80
  go_wp2
  go_loopw [8] (fun v wr => ∃ j : Nat, v = .int .i64 j ∧ j ≤ n ∧ Hid (∀ i, i < j → liveT no (l.getD i tr0) = false) ∧ Hid (Grew w wr)) (fun v _ => n - (intOf v).toNat)
  case atStart => exact ⟨0, rfl, by omega, fun i hi => by omega, grew_refl _⟩
  case round =>
    obtain ⟨j, rfl, hj, HK, HG⟩ := hrel
    by_cases hlt : j < n
    · obtain ⟨b, o, rfl, hb, hc⟩ := (HI.out.keep HG.out).tr hlt
      obtain ⟨a0, a1, a2, a3, a4, a5, a6⟩ := hc j hlt
      have CX := fun w' g => CC w' g (l.getD j tr0)
      have HY1 := Lib.hid (HYES.out j hlt HK.out)
      have HK1 : Hid (liveT no (l.getD j tr0) = false → ∀ i, i < j + 1 → liveT no (l.getD i tr0) = false) := fun h i hi => by
        rcases Nat.lt_or_ge i j with h1 | h1
        · exact HK.out i h1
        · obtain rfl : i = j := by omega
          exact h
      have i0 : (0 : Int) ≤ (j : Int) := by omega
      have i1 : (j : Int) < (n : Int) := by omega
      clear hc hb HYES HNO
      generalize liveT no (l.getD j tr0) = lv at *
      generalize l.getD j tr0 = x at *
      obtain ⟨⟨q1, q2, q3, q4, q5, q6⟩, q7⟩ := x
      dsimp only at a0 a1 a2 a3 a4 a5 a6 CX
      cases lv
      · have HK2 := Lib.hid (HK1.out rfl)
        clear HY1 HK1 HK
        go_wp2_with ((with_reducible refine (CX _ HG.out).mono ?_); rintro e w5 ⟨rfl, hg⟩; have HG5 := Lib.hid (grew_trans HG.out hg); clear hg)
        go_roundw
        case rel => exact ⟨j + 1, by go_num, by omega, HK2.out, HG5.out⟩
        case measure => simp only [intOf]; omega
      · have HF := Lib.hid (HY1.out rfl)
        clear HY1 HK1 HK
        go_wp2_with ((with_reducible refine (CX _ HG.out).mono ?_); rintro e w5 ⟨rfl, hg⟩; have HG5 := Lib.hid (grew_trans HG.out hg); clear hg)
        go_ret
        exact ⟨ret_i HF.out.symm, HG5.out⟩
    · obtain rfl : j = n := by omega
      have HF := Lib.hid (HNO.out HK.out)
      clear HYES HNO HK
      go_wp2
      go_ret
      exact ⟨ret_i HF.out.symm, HG.out⟩

theorem standing_any (b : Bk) (A1 A2 : Option Addr) (n1 n2 c1 c2 : Nat) (no : Int) (w : World) (h : InB w b A1 A2 n1 n2 c1 c2) (hn : n1 ≤ 100000) :
    Calls Tryz.prog 51 #[vBk b.1 A1 A2 n1 n2 c1 c2, .int .i64 no] w fun e w' => e = .returned (.int .i64 (ixV b.2.1 no)) ∧ Grew w w' := by
  have CI := fun w' (g : Grew ((w.alloc (.cells #[.int .i64 b.1, .slice A1 n1 c1, .slice A2 n2 c2] 28)).alloc (.cells #[.int .i64 no] 3)) w') => index_any A1 n1 c1 b.2.1 no (w.heap.size + 1) w' ((h.t.keep (grew_trans (grew_alloc _ _ _) (grew_alloc _ _ _))).keep g) (by omega) (by have := g.size; simp at this; omega) ((grew_cell g (p := ⟨w.heap.size + 1, 0, none⟩) (by simp)).trans (by simp))
  generalize ixV b.2.1 no = V at *
  generalize b.1 = nx at *
  clear h
  dsimp only [vBk]
  go_enter Tryz.func51, Tryz.ntmps51
  go_wp2_with (go_at_call 80; ((with_reducible refine (CI _ (grew_refl _)).mono ?_); rintro e w5 ⟨rfl, hg⟩; have HG5 : Hid (Grew w w5) := grew_trans (grew_trans (grew_alloc _ _ _) (grew_alloc _ _ _)) hg; clear hg))
  go_ret
  exact ⟨rfl, HG5.out⟩
end Go.Proofs.YtahioajpmlochaaGreat.NumK
namespace Go.Proofs.YtahioajpmlochaaGreat.NumK
open Go.RowKit
set_option linter.unusedVariables false

def LegsPost (t : Tr) (back : Bool) (w : World) (e : Ending) (w' : World) : Prop :=
  ∃ A c, e = .returned (.slice A (legsT t back).length c) ∧ OwnE enPo w' w.heap.size 31 (.slice A (legsT t back).length c) (legsT t back) ∧ Grew w w'
theorem legs_no {t : Tr} (h : sizedT t = false) (back : Bool) : legsT t back = [] := by unfold legsT; rw [h]; rfl
theorem legs_yes {t : Tr} (h : sizedT t = true) (back : Bool) : legsT t back = twoL t (if back then -t.1.2.2.2.2.1 else t.1.2.2.2.2.1) := by unfold legsT; rw [h]; rfl
theorem legs_none {t : Tr} (h : sizedT t = false) (back : Bool) {w : World} (w' : World) (g : Grew w w') : LegsPost t back w (.returned (.slice none 0 0)) w' := by
  refine ⟨none, 0, ?_, ?_, g⟩
  · rw [legs_no h]; rfl
  · rw [legs_no h]; exact OwnE.nil _ _ _ _
theorem legs_two {t : Tr} (h : sizedT t = true) (back : Bool) {w : World} (w1 : World) (g : Grew w w1) (a b c d a' b' c' d' : Int) (N : Nat) (hN : N = w1.heap.size) (hl : twoL t (if back then -t.1.2.2.2.2.1 else t.1.2.2.2.2.1) = [(a, b, c, d), (a', b', c', d')]) :
    LegsPost t back w (.returned (.slice (some ⟨N, 0, none⟩) 2 2)) (w1.alloc (.cells #[.int .i64 a, .int .i64 b, .int .i64 c, .int .i64 d, .int .i64 a', .int .i64 b', .int .i64 c', .int .i64 d'] 31)) := by
  have e := (legs_yes h back).trans hl
  refine ⟨some ⟨N, 0, none⟩, 2, by rw [e]; rfl, ?_, grew_trans g (grew_alloc _ _ _)⟩
  rw [e]
  exact (OwnE.lit enPo w1 [(a, b, c, d), (a', b', c', d')] _ _ N hN rfl (by show 2 * 4 ≤ maxLen; decide)).mono g.size

set_option maxRecDepth 100000 in
set_option maxHeartbeats 1000000 in
theorem plegs_any (t : Tr) (back : Bool) (s : Int) (hs : s = if back then -1 else 1) (w : World) : Calls Tryz.prog 86 #[vTr t, .int .i64 s] w (LegsPost t back w) := by
  have CR := fun w => tright_any t w
  by_cases h : sizedT t = true
  · have HT := Lib.hid (@legs_two t h back w)
    have HI := Lib.hid ((sizedT_iff t).1 h)
    rw [h] at CR
    obtain ⟨⟨q1, q2, q3, q4, q5, q6⟩, q7⟩ := t
    have HM := Lib.hid (mul_in q5 q6 HI.out)
    obtain ⟨⟨b1, b2⟩, b3, b4⟩ := HI.out
    obtain ⟨m1, m2⟩ := HM.out
    dsimp only [twoL] at HT
    dsimp only at b1 b2 b3 b4
    generalize LegsPost ((q1, q2, q3, q4, q5, q6), q7) back w = PP at *
    dsimp only [vTr] at CR ⊢
    clear h HI HM
    have HX0 : Hid (OwnC (w.alloc (.cells #[.int .i64 q1, .int .i64 q2, .int .i64 q3, .int .i64 q4, .int .i64 q5, .int .i64 q6, .bool q7] 50)) w.heap.size [.int .i64 q1, .int .i64 q2, .int .i64 q3, .int .i64 q4, .int .i64 q5, .int .i64 q6, .bool q7]) := OwnC.new w [.int .i64 q1, .int .i64 q2, .int .i64 q3, .int .i64 q4, .int .i64 q5, .int .i64 q6, .bool q7] _ _ rfl
    cases back
    · simp only [Bool.false_eq_true, if_false] at hs HT
      subst hs
      have e1 : IntKind.i64.wrap (q5 * q6) = q5 * q6 := by rw [IntKind.wrap_i64]; omega
      have e2 : -(q5 * q6) = -q5 * q6 := (Int.neg_mul _ _).symm
      go_enter Tryz.func86, Tryz.ntmps86
      go_wp2_with (go_at_call 99; ((with_reducible refine (CR _).mono ?_); rintro e w1 ⟨rfl, hg⟩; have HG := Lib.hid (own_back hg); have HX := Lib.hid (HX0.out.keep hg); have x1 : w1.cell? ⟨w.heap.size, 1, none⟩ = some (.int .i64 q2) := HX.out.at 1 _ rfl; have x2 : w1.cell? ⟨w.heap.size, 2, none⟩ = some (.int .i64 q3) := HX.out.at 2 _ rfl; have x3 : w1.cell? ⟨w.heap.size, 3, none⟩ = some (.int .i64 q4) := HX.out.at 3 _ rfl; have x4 : w1.cell? ⟨w.heap.size, 4, none⟩ = some (.int .i64 q5) := HX.out.at 4 _ rfl; have x5 : w1.cell? ⟨w.heap.size, 5, none⟩ = some (.int .i64 q6) := HX.out.at 5 _ rfl; clear hg))
      go_quiet (fail)
      have HG2 : Hid (Grew w (w1.drewN nq)) := grew_drewN HG.out _
      go_wp2
      refine HT.out _ HG2.out _ _ _ _ _ _ _ _ _ (by simp) ?_
      simp [Int.neg_mul]
    · simp only [if_true] at hs HT
      subst hs
      have e2 : -q5 * q6 = -(q5 * q6) := (Int.neg_mul _ _)
      have e1 : IntKind.i64.wrap (-q5 * q6) = -(q5 * q6) := by rw [IntKind.wrap_i64, e2]; omega
      go_enter Tryz.func86, Tryz.ntmps86
      go_wp2_with (go_at_call 99; ((with_reducible refine (CR _).mono ?_); rintro e w1 ⟨rfl, hg⟩; have HG := Lib.hid (own_back hg); have HX := Lib.hid (HX0.out.keep hg); have x1 : w1.cell? ⟨w.heap.size, 1, none⟩ = some (.int .i64 q2) := HX.out.at 1 _ rfl; have x2 : w1.cell? ⟨w.heap.size, 2, none⟩ = some (.int .i64 q3) := HX.out.at 2 _ rfl; have x3 : w1.cell? ⟨w.heap.size, 3, none⟩ = some (.int .i64 q4) := HX.out.at 3 _ rfl; have x4 : w1.cell? ⟨w.heap.size, 4, none⟩ = some (.int .i64 q5) := HX.out.at 4 _ rfl; have x5 : w1.cell? ⟨w.heap.size, 5, none⟩ = some (.int .i64 q6) := HX.out.at 5 _ rfl; clear hg))
      go_quiet (fail)
      have HG2 : Hid (Grew w (w1.drewN nq)) := grew_drewN HG.out _
      go_wp2
      refine HT.out _ HG2.out _ _ _ _ _ _ _ _ _ (by simp) ?_
      simp [Int.neg_mul]
  · simp only [Bool.not_eq_true] at h
    have HT := Lib.hid (@legs_none t h back w)
    rw [h] at CR
    generalize LegsPost t back w = PP at *
    obtain ⟨⟨q1, q2, q3, q4, q5, q6⟩, q7⟩ := t
    dsimp only [vTr] at CR ⊢
    clear h hs
    go_enter Tryz.func86, Tryz.ntmps86
    go_wp2_with (go_at_call 99; ((with_reducible refine (CR _).mono ?_); rintro e w1 ⟨rfl, hg⟩; have HG := Lib.hid (own_back hg); clear hg))
    exact HT.out _ HG.out

theorem legs12_any (t : Tr) (w : World) : Calls Tryz.prog 56 #[vTr t] w (LegsPost t false w) := by
  have CL := fun w => plegs_any t false 1 rfl w
  have HP : Hid (∀ w1 e w', Grew w w1 → LegsPost t false w1 e w' → LegsPost t false w e w') := fun w1 e w' g ⟨A, c, he, ho, hg⟩ => ⟨A, c, he, ho.mono g.size, grew_trans g hg⟩
  generalize hPP : LegsPost t false w = PP at *
  obtain ⟨⟨q1, q2, q3, q4, q5, q6⟩, q7⟩ := t
  dsimp only [vTr] at CL ⊢
  go_enter Tryz.func56, Tryz.ntmps56
  go_wp2_with (go_at_call 86; ((with_reducible refine (CL _).mono ?_); rintro e w1 ⟨A, c, rfl, ho, hg⟩; have HF := Lib.hid (HP.out _ _ _ (grew_alloc _ _ _) ⟨A, c, rfl, ho, hg⟩); clear ho hg HP))
  exact HF.out

theorem undo12_any (t : Tr) (w : World) : Calls Tryz.prog 53 #[vTr t] w (LegsPost t true w) := by
  have CL := fun w => plegs_any t true (-1) rfl w
  have HP : Hid (∀ w1 e w', Grew w w1 → LegsPost t true w1 e w' → LegsPost t true w e w') := fun w1 e w' g ⟨A, c, he, ho, hg⟩ => ⟨A, c, he, ho.mono g.size, grew_trans g hg⟩
  generalize hPP : LegsPost t true w = PP at *
  obtain ⟨⟨q1, q2, q3, q4, q5, q6⟩, q7⟩ := t
  dsimp only [vTr] at CL ⊢
  go_enter Tryz.func53, Tryz.ntmps53
  go_wp2_with (go_at_call 86; ((with_reducible refine (CL _).mono ?_); rintro e w1 ⟨A, c, rfl, ho, hg⟩; have HF := Lib.hid (HP.out _ _ _ (grew_alloc _ _ _) ⟨A, c, rfl, ho, hg⟩); clear ho hg HP))
  exact HF.out

end Go.Proofs.YtahioajpmlochaaGreat.NumK
namespace Go.Proofs.YtahioajpmlochaaGreat.NumK
open Go.RowKit
set_option linter.unusedVariables false

/-- A book in block e (cells ev), its rows in blocks of the call's own; another block ob (cells ol), the result's zb. -/
structure AtE (w wE : World) (e ob zb : Nat) (ev ol zl : List Value) (A1 A2 : Option Addr) (n1 n2 c1 c2 : Nat) (lt : List Tr) (pl : List Po) : Prop where
  ce : OwnC wE e ev
  co : OwnC wE ob ol
  cz : OwnC wE zb zl
  rows : Two enTr enPo wE (zb + 1) 50 31 (.slice A1 n1 c1) (.slice A2 n2 c2) lt pl
  n1 : ∀ g, (Value.slice A1 n1 c1).ownBlock = some g → g ≠ e
  n2 : ∀ g, (Value.slice A2 n2 c2).ownBlock = some g → g ≠ e
  gr : Grew w wE
  le : w.heap.size ≤ ob ∧ ob < zb ∧ zb < e
section
variable {w wE : World} {e ob zb : Nat} {ev ol zl : List Value} {A1 A2 : Option Addr} {n1 n2 c1 c2 : Nat} {lt : List Tr} {pl : List Po}
theorem AtE.keep {w2 : World} (h : AtE w wE e ob zb ev ol zl A1 A2 n1 n2 c1 c2 lt pl) (g : Grew wE w2) : AtE w w2 e ob zb ev ol zl A1 A2 n1 n2 c1 c2 lt pl :=
  ⟨h.ce.keep g, h.co.keep g, h.cz.keep g, h.rows.keep g, h.n1, h.n2, grew_trans h.gr g, h.le⟩
theorem AtE.far (h : AtE w wE e ob zb ev ol zl A1 A2 n1 n2 c1 c2 lt pl) {b : Nat} (hb : b ≤ zb) : (∀ g, (Value.slice A1 n1 c1).ownBlock = some g → g ≠ b) ∧ ∀ g, (Value.slice A2 n2 c2).ownBlock = some g → g ≠ b :=
  ⟨fun g hg => by have := (World.ownsRow.lt h.rows.a g hg).1; omega, fun g hg => by have := (World.ownsRow.lt h.rows.b g hg).1; omega⟩
theorem AtE.setE (h : AtE w wE e ob zb ev ol zl A1 A2 n1 n2 c1 c2 lt pl) (i : Nat) (u : Value) (hi : i < ev.length) : AtE w (wE.setCell ⟨e, i, none⟩ u) e ob zb (ev.set i u) ol zl A1 A2 n1 n2 c1 c2 lt pl := by
  have hle := h.le
  exact ⟨h.ce.set i u hi, h.co.other ⟨e, i, none⟩ u (by show e ≠ ob; omega), h.cz.other ⟨e, i, none⟩ u (by show e ≠ zb; omega), h.rows.setO e i u h.n1 h.n2, h.n1, h.n2, grew_set h.gr u (by show _ ≤ e; omega), h.le⟩
theorem AtE.setO (h : AtE w wE e ob zb ev ol zl A1 A2 n1 n2 c1 c2 lt pl) (i : Nat) (u : Value) (hi : i < ol.length) : AtE w (wE.setCell ⟨ob, i, none⟩ u) e ob zb ev (ol.set i u) zl A1 A2 n1 n2 c1 c2 lt pl := by
  have hle := h.le
  obtain ⟨f1, f2⟩ := h.far (b := ob) (by omega)
  exact ⟨h.ce.other ⟨ob, i, none⟩ u (by show ob ≠ e; omega), h.co.set i u hi, h.cz.other ⟨ob, i, none⟩ u (by show ob ≠ zb; omega), h.rows.setO ob i u f1 f2, h.n1, h.n2, grew_set h.gr u (by show _ ≤ ob; omega), h.le⟩
/-- The result is written. -/
theorem AtE.putZ (h : AtE w wE e ob zb ev ol zl A1 A2 n1 n2 c1 c2 lt pl) (vs : List Value) (hv : vs.length = zl.length) : AtE w (putC wE zb 0 vs) e ob zb ev ol vs A1 A2 n1 n2 c1 c2 lt pl := by
  have hle := h.le
  obtain ⟨f1, f2⟩ := h.far (b := zb) (Nat.le_refl _)
  exact ⟨OwnC.putO (by omega) vs 0 _ h.ce, OwnC.putO (by omega) vs 0 _ h.co, h.cz.all vs hv, h.rows.putN zb vs 0 f1 f2, h.n1, h.n2, grew_put zb (by omega) vs 0 _ h.gr, h.le⟩
/-- One trade more. -/
theorem AtE.app (h : AtE w wE e ob zb ev ol zl A1 A2 n1 n2 c1 c2 lt pl) {w2 : World} {A : Option Addr} {m c : Nat} {lt2 : List Tr} (hr : Two enTr enPo w2 (zb + 1) 50 31 (.slice A m c) (.slice A2 n2 c2) lt2 pl)
    (hg : wE.grownBy w2 (Value.slice A1 n1 c1).ownBlock) (hA : ∀ y, A = some y → (Value.slice A1 n1 c1).ownBlock = some y.block ∨ y.block = wE.heap.size) : AtE w w2 e ob zb ev ol zl A A2 m n2 c c2 lt2 pl := by
  have hle := h.le
  have hfar : ∀ b cs, OwnC wE b cs → some b ≠ (Value.slice A1 n1 c1).ownBlock → OwnC w2 b cs := fun b cs hc hne =>
    ⟨Nat.lt_of_lt_of_le hc.lt hg.size, fun i hi => (hg.cell_far ⟨b, i, none⟩ hc.lt hne).trans (hc.c i hi), fun i hi => (hg.frozen_far ⟨b, i, none⟩ hc.lt hne).trans (hc.f i hi)⟩
  have hlow : ∀ b, b ≤ zb → some b ≠ (Value.slice A1 n1 c1).ownBlock := fun b hb he => (h.far hb).1 b he.symm rfl
  refine ⟨hfar _ _ h.ce fun he => h.n1 e he.symm rfl, hfar _ _ h.co (hlow _ (by omega)), hfar _ _ h.cz (hlow _ (Nat.le_refl _)), hr, fun g hg2 => ?_, h.n2, ?_, h.le⟩
  · obtain ⟨x, rfl, rfl⟩ := own_addr hg2
    rcases hA x rfl with h1 | h1
    · exact h.n1 _ h1
    · have := h.ce.lt; omega
  · exact Below.grown h.gr hg h.gr.size fun k hk => by have := (World.ownsRow.lt h.rows.a k hk).1; omega
/-- A book told by a call, stored in a block of one's own. -/
theorem AtE.new {base : Nat} {b : Bk} {es vs : List Value} (he : OwnC wE e es) (ho : OwnC wE ob ol) (hz : OwnC wE zb zl) (hb : OwnB wE base b A1 A2 c1 c2) (hbase : zb + 1 ≤ base)
    (h1 : ∀ x, A1 = some x → x.block ≠ e) (h2 : ∀ x, A2 = some x → x.block ≠ e) (g : Grew w wE) (hle : w.heap.size ≤ ob ∧ ob < zb ∧ zb < e) (hv : vs.length = es.length) :
    AtE w (putC wE e 0 vs) e ob zb vs ol zl A1 A2 b.2.1.length b.2.2.length c1 c2 b.2.1 b.2.2 := by
  have n1 : ∀ g, (Value.slice A1 b.2.1.length c1).ownBlock = some g → g ≠ e := fun g hg => by
    obtain ⟨x, hx, rfl⟩ := own_addr hg
    exact h1 x hx
  have n2 : ∀ g, (Value.slice A2 b.2.2.length c2).ownBlock = some g → g ≠ e := fun g hg => by
    obtain ⟨x, hx, rfl⟩ := own_addr hg
    exact h2 x hx
  have hr : Two enTr enPo wE (zb + 1) 50 31 (.slice A1 b.2.1.length c1) (.slice A2 b.2.2.length c2) b.2.1 b.2.2 := ⟨hb.t.mono hbase, hb.p.mono hbase, fun g hg1 hg2 => by
    obtain ⟨x, hx, rfl⟩ := own_addr hg1
    obtain ⟨y, hy, e2⟩ := own_addr hg2
    exact hb.ne x y hx hy e2.symm⟩
  exact ⟨he.all vs hv, OwnC.putO (by omega) vs 0 _ ho, OwnC.putO (by omega) vs 0 _ hz, hr.putN e vs 0 n1 n2, n1, n2, grew_put e (by omega) vs 0 _ g, hle⟩
/-- .. in a block made with it in. -/
theorem AtE.lay {base : Nat} {b : Bk} {vs : List Value} (he : OwnC wE e vs) (ho : OwnC wE ob ol) (hz : OwnC wE zb zl) (hb : OwnB wE base b A1 A2 c1 c2) (hbase : zb + 1 ≤ base)
    (h1 : ∀ x, A1 = some x → x.block ≠ e) (h2 : ∀ x, A2 = some x → x.block ≠ e) (g : Grew w wE) (hle : w.heap.size ≤ ob ∧ ob < zb ∧ zb < e) :
    AtE w wE e ob zb vs ol zl A1 A2 b.2.1.length b.2.2.length c1 c2 b.2.1 b.2.2 := by
  refine ⟨he, ho, hz, ⟨hb.t.mono hbase, hb.p.mono hbase, fun g hg1 hg2 => ?_⟩, fun g hg => ?_, fun g hg => ?_, g, hle⟩
  · obtain ⟨x, hx, rfl⟩ := own_addr hg1
    obtain ⟨y, hy, e2⟩ := own_addr hg2
    exact hb.ne x y hx hy e2.symm
  · obtain ⟨x, hx, rfl⟩ := own_addr hg
    exact h1 x hx
  · obtain ⟨x, hx, rfl⟩ := own_addr hg
    exact h2 x hx
theorem AtE.own (h : AtE w wE e ob zb ev ol zl A1 A2 n1 n2 c1 c2 lt pl) (h1 : n1 = lt.length) (h2 : n2 = pl.length) (nx : Int) : OwnB wE w.heap.size (nx, lt, pl) A1 A2 c1 c2 := by
  have hle := h.le
  subst h1 h2
  refine ⟨h.rows.a.mono (by omega), h.rows.b.mono (by omega), fun x y hx hy he => ?_⟩
  subst hx hy
  exact h.rows.ne x.block rfl (by rw [he]; rfl)
end
end Go.Proofs.YtahioajpmlochaaGreat.NumK
