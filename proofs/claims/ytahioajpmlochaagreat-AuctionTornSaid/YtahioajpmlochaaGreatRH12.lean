/- Trades and positions in memory; whether a trade's numbers may be. -/
import Derived.Test.YtahioajpmlochaaGreatRH2
import Derived.Test.YtahioajpmlochaaGreatRH3
import Derived.Deep.RegionHeld3
import Derived.Deep.RegionWith
namespace Go.Proofs.YtahioajpmlochaaGreat.NumK
open Go.RowKit
set_option linter.unusedVariables false

def enPo : En Po := ⟨4, fun x => [.int .i64 x.1, .int .i64 x.2.1, .int .i64 x.2.2.1, .int .i64 x.2.2.2], fun _ => rfl, fun a v hv => by
  simp at hv; rcases hv with rfl | rfl | rfl | rfl <;> rfl, by decide⟩
def enTr : En Tr := ⟨7, fun t => [.int .i64 t.1.1, .int .i64 t.1.2.1, .int .i64 t.1.2.2.1, .int .i64 t.1.2.2.2.1, .int .i64 t.1.2.2.2.2.1, .int .i64 t.1.2.2.2.2.2, .bool t.2], fun _ => rfl, fun a v hv => by
  simp at hv; rcases hv with rfl | rfl | rfl | rfl | rfl | rfl | rfl <;> rfl, by decide⟩
abbrev vPo (x : Po) : Value := .agg #[.int .i64 x.1, .int .i64 x.2.1, .int .i64 x.2.2.1, .int .i64 x.2.2.2]
abbrev vTr (t : Tr) : Value := .agg #[.int .i64 t.1.1, .int .i64 t.1.2.1, .int .i64 t.1.2.2.1, .int .i64 t.1.2.2.2.1, .int .i64 t.1.2.2.2.2.1, .int .i64 t.1.2.2.2.2.2, .bool t.2]
theorem info_po : (Tryz.prog.info? 31).map (fun i => (i.zero, i.size, i.bytes)) = some (some (vPo po0), 4, 32) := by kernel_rfl

def CPo (w : World) (b p : Nat) (x : Po) : Prop :=
  w.cell? ⟨b, p, none⟩ = some (.int .i64 x.1) ∧ w.cell? ⟨b, p + 1, none⟩ = some (.int .i64 x.2.1) ∧ w.cell? ⟨b, p + 2, none⟩ = some (.int .i64 x.2.2.1) ∧ w.cell? ⟨b, p + 3, none⟩ = some (.int .i64 x.2.2.2)
theorem CPo.keep {w w' : World} {b p : Nat} {x : Po} (h : CPo w b p x) (g : Grew w w') (hb : b < w.heap.size) : CPo w' b p x :=
  ⟨(grew_cell g (p := ⟨b, _, none⟩) hb).trans h.1, (grew_cell g (p := ⟨b, _, none⟩) hb).trans h.2.1, (grew_cell g (p := ⟨b, _, none⟩) hb).trans h.2.2.1, (grew_cell g (p := ⟨b, _, none⟩) hb).trans h.2.2.2⟩
theorem RowE.po {w : World} {n : Nat} {l : List Po} {A : Option Addr} (h : RowE enPo w A n l) {j : Nat} (hj : j < n) : ∃ b o, A = some ⟨b, o, none⟩ ∧ b < w.heap.size ∧ ∀ j, j < n → CPo w b (o + j * 4) (l.getD j po0) := by
  have hl := h.len
  obtain ⟨b, o, e, hb, hc⟩ := h.at (by omega)
  refine ⟨b, o, e, hb, fun j hj => ?_⟩
  have hj' : j < l.length := by omega
  rw [getD_at l po0 j hj']
  exact ⟨hc j hj' 0 (by decide), hc j hj' 1 (by decide), hc j hj' 2 (by decide), hc j hj' 3 (by decide)⟩
def CTr (w : World) (b p : Nat) (t : Tr) : Prop :=
  w.cell? ⟨b, p, none⟩ = some (.int .i64 t.1.1) ∧ w.cell? ⟨b, p + 1, none⟩ = some (.int .i64 t.1.2.1) ∧ w.cell? ⟨b, p + 2, none⟩ = some (.int .i64 t.1.2.2.1) ∧ w.cell? ⟨b, p + 3, none⟩ = some (.int .i64 t.1.2.2.2.1)
  ∧ w.cell? ⟨b, p + 4, none⟩ = some (.int .i64 t.1.2.2.2.2.1) ∧ w.cell? ⟨b, p + 5, none⟩ = some (.int .i64 t.1.2.2.2.2.2) ∧ w.cell? ⟨b, p + 6, none⟩ = some (.bool t.2)
theorem CTr.keep {w w' : World} {b p : Nat} {t : Tr} (h : CTr w b p t) (g : Grew w w') (hb : b < w.heap.size) : CTr w' b p t := by
  obtain ⟨h0, h1, h2, h3, h4, h5, h6⟩ := h
  exact ⟨(grew_cell g (p := ⟨b, _, none⟩) hb).trans h0, (grew_cell g (p := ⟨b, _, none⟩) hb).trans h1, (grew_cell g (p := ⟨b, _, none⟩) hb).trans h2, (grew_cell g (p := ⟨b, _, none⟩) hb).trans h3,
    (grew_cell g (p := ⟨b, _, none⟩) hb).trans h4, (grew_cell g (p := ⟨b, _, none⟩) hb).trans h5, (grew_cell g (p := ⟨b, _, none⟩) hb).trans h6⟩
theorem RowE.tr {w : World} {n : Nat} {l : List Tr} {A : Option Addr} (h : RowE enTr w A n l) {j : Nat} (hj : j < n) : ∃ b o, A = some ⟨b, o, none⟩ ∧ b < w.heap.size ∧ ∀ j, j < n → CTr w b (o + j * 7) (l.getD j tr0) := by
  have hl := h.len
  obtain ⟨b, o, e, hb, hc⟩ := h.at (by omega)
  refine ⟨b, o, e, hb, fun j hj => ?_⟩
  have hj' : j < l.length := by omega
  rw [getD_at l tr0 j hj']
  exact ⟨hc j hj' 0 (by decide), hc j hj' 1 (by decide), hc j hj' 2 (by decide), hc j hj' 3 (by decide), hc j hj' 4 (by decide), hc j hj' 5 (by decide), hc j hj' 6 (by decide)⟩

/-- A slice literal is a row of the call's own. -/
theorem OwnE.lit {α : Type} (E : En α) (w : World) (l : List α) (t : TypeId) (cs : Array Value) (N : Nat) (hN : N = w.heap.size) (hc : cs.toList = l.flatMap E.cs) (hm : l.length * E.size ≤ maxLen) :
    OwnE E (w.alloc (.cells cs t)) w.heap.size t (.slice (some ⟨N, 0, none⟩) l.length l.length) l := by
  subst hN
  have hs : cs.size = l.length * E.size := by rw [← Array.length_toList, hc, E.flat_len]
  have hp : l.length ≤ l.length * E.size := Nat.le_mul_of_pos_right _ E.pos
  exact ⟨by rw [E.flat_len], .inr ⟨w.heap.size, l.length, cs, rfl, Nat.le_refl _, heap_alloc_new w _, Nat.le_refl _, by omega, hs, by rw [hc, List.take_of_length_le (by rw [E.flat_len]; exact Nat.le_refl _)]⟩⟩

set_option maxRecDepth 100000 in
theorem tright_any (t : Tr) (w : World) : Calls Tryz.prog 99 #[vTr t] w fun e w' => e = .returned (.bool (sizedT t)) ∧ Grew w w' := by
  obtain ⟨⟨q1, q2, q3, q4, q5, q6⟩, q7⟩ := t
  have HV : Hid (sizedT ((q1, q2, q3, q4, q5, q6), q7) = ((decide (1 ≤ q5) && decide (q5 ≤ 1048576)) && (decide (1 ≤ q6) && decide (q6 ≤ 1073741824)))) := rfl
  generalize sizedT ((q1, q2, q3, q4, q5, q6), q7) = V at *
  dsimp only [vTr]
  by_cases h1 : 1 ≤ q5
  · by_cases h2 : q5 ≤ 1048576
    · by_cases h3 : 1 ≤ q6
      · by_cases h4 : q6 ≤ 1073741824
        all_goals
          (have HF := Lib.hid HV.out
           simp only [h1, h2, h3, h4, decide_true, decide_false, Bool.and_true, Bool.and_false] at HF
           clear HV
           go_enter Tryz.func99, Tryz.ntmps99
           go_wp2
           go_ret
           exact ⟨ret_b HF.out.symm, grew_alloc _ _ _⟩)
      · have HF : Hid (V = false) := by show _ = _; rw [HV.out, decide_eq_false h3]; simp
        clear HV
        go_enter Tryz.func99, Tryz.ntmps99
        go_wp2
        go_ret
        exact ⟨ret_b HF.out.symm, grew_alloc _ _ _⟩
    · have HF : Hid (V = false) := by show _ = _; rw [HV.out, decide_eq_false h2]; simp
      clear HV
      go_enter Tryz.func99, Tryz.ntmps99
      go_wp2
      go_ret
      exact ⟨ret_b HF.out.symm, grew_alloc _ _ _⟩
  · have HF : Hid (V = false) := by show _ = _; rw [HV.out, decide_eq_false h1]; simp
    clear HV
    go_enter Tryz.func99, Tryz.ntmps99
    go_wp2
    go_ret
    exact ⟨ret_b HF.out.symm, grew_alloc _ _ _⟩

set_option maxRecDepth 100000 in
theorem rsized_any (t : Tr) (w : World) : Calls Tryz.prog 78 #[vTr t] w fun e w' => e = .returned (.bool (sizedT t)) ∧ Grew w w' := by
  obtain ⟨⟨q1, q2, q3, q4, q5, q6⟩, q7⟩ := t
  have HV : Hid (sizedT ((q1, q2, q3, q4, q5, q6), q7) = (wi q5 1 1048576 && wi q6 1 1073741824)) := rfl
  have CW1 := fun w => rwithin_any q5 1 1048576 w
  have CW2 := fun w => rwithin_any q6 1 1073741824 w
  generalize sizedT ((q1, q2, q3, q4, q5, q6), q7) = V at *
  generalize wi q5 1 1048576 = R1 at *
  generalize wi q6 1 1073741824 = R2 at *
  dsimp only [vTr]
  cases R1
  · have HF : Hid (V = false) := by show _ = _; rw [HV.out]; rfl
    clear HV
    go_enter Tryz.func78, Tryz.ntmps78
    go_wp2_with (go_at_call 26; ((with_reducible refine (CW1 _).mono ?_); rintro e w1 ⟨rfl, rfl⟩))
    go_ret
    exact ⟨ret_b HF.out.symm, grew_alloc _ _ _⟩
  · have HF : Hid (V = R2) := by show _ = _; rw [HV.out]; rfl
    clear HV
    go_enter Tryz.func78, Tryz.ntmps78
    go_wp2_with (first
      | (go_at_call 26; ((with_reducible refine (CW1 _).mono ?_); rintro e w1 ⟨rfl, rfl⟩))
      | (go_at_call 26; ((with_reducible refine (CW2 _).mono ?_); rintro e w1 ⟨rfl, rfl⟩)))
    go_ret
    exact ⟨ret_b HF.out.symm, grew_alloc _ _ _⟩
end Go.Proofs.YtahioajpmlochaaGreat.NumK
namespace Go.Proofs.YtahioajpmlochaaGreat.NumK
open Go.RowKit
set_option linter.unusedVariables false

theorem info_tr : (Tryz.prog.info? 50).map (fun i => (i.zero, i.size, i.bytes)) = some (some (vTr tr0), 7, 56) := by kernel_rfl
abbrev vKy (k : Ky) : Value := .agg #[.int .i64 k.1, .int .i64 k.2]

theorem bwithin_any (n lo hi : Int) (w : World) : Calls Tryz.prog 31 #[.int .i64 n, .int .i64 lo, .int .i64 hi] w fun e w' => e = .returned (.bool (wi n lo hi)) ∧ w = w' := by
  by_cases h1 : lo ≤ n <;> by_cases h2 : n ≤ hi
  all_goals
    (have HR : Hid (wi n lo hi = (decide (lo ≤ n) && decide (n ≤ hi))) := rfl
     generalize wi n lo hi = R at *
     simp only [h1, h2, decide_true, decide_false, Bool.and_true, Bool.and_false] at HR
     go_enter Tryz.func31, Tryz.ntmps31
     go_wp2
     go_ret
     exact ⟨ret_b HR.out.symm, rfl⟩)

theorem permitted_any (a b : Int) (w : World) : Calls Tryz.prog 57 #[vKy (a, b)] w fun e w' => e = .returned (.bool (okK (a, b))) ∧ Grew w w' := by
  have HV : Hid (okK (a, b) = (wi a 1 16 && wi b 1 8)) := rfl
  have C1 := fun w => bwithin_any a 1 16 w
  have C2 := fun w => bwithin_any b 1 8 w
  generalize okK (a, b) = V at *
  generalize wi a 1 16 = R1 at *
  generalize wi b 1 8 = R2 at *
  dsimp only [vKy]
  cases R1
  · have HF : Hid (V = false) := by show _ = _; rw [HV.out]; rfl
    clear HV
    go_enter Tryz.func57, Tryz.ntmps57
    go_wp2_with (go_at_call 31; ((with_reducible refine (C1 _).mono ?_); rintro e w1 ⟨rfl, rfl⟩))
    go_ret
    exact ⟨ret_b HF.out.symm, grew_alloc _ _ _⟩
  · have HF : Hid (V = R2) := by show _ = _; rw [HV.out]; rfl
    clear HV
    go_enter Tryz.func57, Tryz.ntmps57
    go_wp2_with (first
      | (go_at_call 31; ((with_reducible refine (C1 _).mono ?_); rintro e w1 ⟨rfl, rfl⟩))
      | (go_at_call 31; ((with_reducible refine (C2 _).mono ?_); rintro e w1 ⟨rfl, rfl⟩)))
    go_ret
    exact ⟨ret_b HF.out.symm, grew_alloc _ _ _⟩

theorem rkey_any (a b : Int) (w : World) : Calls Tryz.prog 22 #[vKy (a, b)] w fun e w' => e = .returned (.bool (okK (a, b))) ∧ Grew w w' := by
  have HV : Hid (okK (a, b) = (wi a 1 16 && wi b 1 8)) := rfl
  have C1 := fun w => rwho_any a w
  have C2 := fun w => rwithin_any b 1 8 w
  generalize okK (a, b) = V at *
  generalize wi a 1 16 = R1 at *
  generalize wi b 1 8 = R2 at *
  dsimp only [vKy]
  cases R1
  · have HF : Hid (V = false) := by show _ = _; rw [HV.out]; rfl
    clear HV
    go_enter Tryz.func22, Tryz.ntmps22
    go_wp2_with (go_at_call 47; ((with_reducible refine (C1 _).mono ?_); rintro e w1 ⟨rfl, rfl⟩))
    go_ret
    exact ⟨ret_b HF.out.symm, grew_alloc _ _ _⟩
  · have HF : Hid (V = R2) := by show _ = _; rw [HV.out]; rfl
    clear HV
    go_enter Tryz.func22, Tryz.ntmps22
    go_wp2_with (first
      | (go_at_call 47; ((with_reducible refine (C1 _).mono ?_); rintro e w1 ⟨rfl, rfl⟩))
      | (go_at_call 26; ((with_reducible refine (C2 _).mono ?_); rintro e w1 ⟨rfl, rfl⟩)))
    go_ret
    exact ⟨ret_b HF.out.symm, grew_alloc _ _ _⟩

/-- Neither quantity nor cost. -/
def noneP (q c : Int) : Bool := decide (q = 0) && decide (c = 0)
theorem empty_any (x : Po) (w : World) : Calls Tryz.prog 58 #[vPo x] w fun e w' => e = .returned (.bool (noneP x.2.2.1 x.2.2.2)) ∧ Grew w w' := by
  obtain ⟨q1, q2, q3, q4⟩ := x
  have HV : Hid (noneP q3 q4 = (decide (q3 = 0) && decide (q4 = 0))) := rfl
  dsimp only [vPo]
  generalize noneP q3 q4 = V at *
  by_cases h1 : q3 = 0
  · by_cases h2 : q4 = 0
    · have HF : Hid (V = true) := by show _ = _; rw [HV.out, decide_eq_true h1, decide_eq_true h2]; rfl
      clear HV
      subst h1 h2
      go_enter Tryz.func58, Tryz.ntmps58
      go_wp2
      go_ret
      exact ⟨ret_b HF.out.symm, grew_alloc _ _ _⟩
    · have HF : Hid (V = false) := by show _ = _; rw [HV.out, decide_eq_false h2]; simp
      have d1 : (q4 == 0) = false := by simpa using h2
      clear HV h2
      subst h1
      go_enter Tryz.func58, Tryz.ntmps58
      go_wp2
      go_ret
      exact ⟨ret_b HF.out.symm, grew_alloc _ _ _⟩
  · have HF : Hid (V = false) := by show _ = _; rw [HV.out, decide_eq_false h1]; simp
    have d1 : (q3 == 0) = false := by simpa using h1
    clear HV h1
    go_enter Tryz.func58, Tryz.ntmps58
    go_wp2
    go_ret
    exact ⟨ret_b HF.out.symm, grew_alloc _ _ _⟩

theorem less_any (a b c d : Int) (w : World) : Calls Tryz.prog 59 #[vKy (a, b), vKy (c, d)] w fun e w' => e = .returned (.bool (kltB (a, b) (c, d))) ∧ Grew w w' := by
  have HV : Hid (kltB (a, b) (c, d) = (decide (a < c) || (decide (a = c) && decide (b < d)))) := rfl
  generalize kltB (a, b) (c, d) = V at *
  dsimp only [vKy]
  by_cases h1 : a < c
  · have HF : Hid (V = true) := by show _ = _; rw [HV.out, decide_eq_true h1]; rfl
    clear HV
    go_enter Tryz.func59, Tryz.ntmps59
    go_wp2
    go_ret
    exact ⟨ret_b HF.out.symm, grew_trans (grew_alloc _ _ _) (grew_alloc _ _ _)⟩
  · by_cases h2 : a = c
    · by_cases h3 : b < d
      all_goals
        (have HF := Lib.hid HV.out
         simp only [h2, h3, decide_true, decide_false, Bool.and_true, Bool.and_false, Bool.or_false, Bool.or_true] at HF
         subst h2
         clear HV
         go_enter Tryz.func59, Tryz.ntmps59
         go_wp2
         go_ret
         exact ⟨ret_b (by rw [HF.out]; try simp), grew_trans (grew_alloc _ _ _) (grew_alloc _ _ _)⟩)
    · have HF : Hid (V = false) := by show _ = _; rw [HV.out, decide_eq_false h1, decide_eq_false h2]; rfl
      have d1 : (a == c) = false := by simpa using h2
      clear HV h2
      go_enter Tryz.func59, Tryz.ntmps59
      go_wp2
      go_ret
      exact ⟨ret_b HF.out.symm, grew_trans (grew_alloc _ _ _) (grew_alloc _ _ _)⟩

theorem rless_any (a b c d : Int) (w : World) : Calls Tryz.prog 45 #[vKy (a, b), vKy (c, d)] w fun e w' => e = .returned (.bool (kltB (a, b) (c, d))) ∧ Grew w w' := by
  have HV : Hid (kltB (a, b) (c, d) = (decide (a < c) || (decide (a = c) && decide (b < d)))) := rfl
  generalize kltB (a, b) (c, d) = V at *
  dsimp only [vKy]
  by_cases h1 : a < c
  · have HF : Hid (V = true) := by show _ = _; rw [HV.out, decide_eq_true h1]; rfl
    clear HV
    go_enter Tryz.func45, Tryz.ntmps45
    go_wp2
    go_ret
    exact ⟨ret_b HF.out.symm, grew_trans (grew_alloc _ _ _) (grew_alloc _ _ _)⟩
  · by_cases h2 : a = c
    · by_cases h3 : b < d
      all_goals
        (have HF := Lib.hid HV.out
         simp only [h2, h3, decide_true, decide_false, Bool.and_true, Bool.and_false, Bool.or_false, Bool.or_true] at HF
         subst h2
         clear HV
         go_enter Tryz.func45, Tryz.ntmps45
         go_wp2
         go_ret
         exact ⟨ret_b (by rw [HF.out]; try simp), grew_trans (grew_alloc _ _ _) (grew_alloc _ _ _)⟩)
    · have HF : Hid (V = false) := by show _ = _; rw [HV.out, decide_eq_false h1, decide_eq_false h2]; rfl
      have d1 : (a == c) = false := by simpa using h2
      clear HV h2
      go_enter Tryz.func45, Tryz.ntmps45
      go_wp2
      go_ret
      exact ⟨ret_b HF.out.symm, grew_trans (grew_alloc _ _ _) (grew_alloc _ _ _)⟩

theorem nums_alt (t : Tr) : numsT t = ((((wi t.1.2.2.2.2.1 1 1048576 && wi t.1.2.2.2.2.2 1 1073741824) && okK (t.1.2.1, t.1.2.2.2.1)) && okK (t.1.2.2.1, t.1.2.2.2.1)) && !(decide (t.1.2.1 = t.1.2.2.1))) := by
  unfold numsT sizedT sizedB okK
  simp only
  cases wi t.1.2.2.2.2.1 1 1048576 <;> cases wi t.1.2.2.2.2.2 1 1073741824 <;> cases wi t.1.2.1 1 16 <;> cases wi t.1.2.2.1 1 16 <;> cases wi t.1.2.2.2.1 1 8 <;> simp

set_option maxRecDepth 100000 in
set_option maxHeartbeats 2000000 in
theorem rightTrade_any (t : Tr) (w : World) : Calls Tryz.prog 55 #[vTr t] w fun e w' => e = .returned (.bool (numsT t)) ∧ Grew w w' := by
  have HV := Lib.hid (nums_alt t)
  generalize numsT t = V at *
  obtain ⟨⟨q1, q2, q3, q4, q5, q6⟩, q7⟩ := t
  dsimp only at HV
  have C1 := fun w => bwithin_any q5 1 1048576 w
  have C2 := fun w => bwithin_any q6 1 1073741824 w
  have C3 := fun w => permitted_any q2 q4 w
  have C4 := fun w => permitted_any q3 q4 w
  have HX0 : Hid (OwnC (w.alloc (.cells #[.int .i64 q1, .int .i64 q2, .int .i64 q3, .int .i64 q4, .int .i64 q5, .int .i64 q6, .bool q7] 50)) w.heap.size [.int .i64 q1, .int .i64 q2, .int .i64 q3, .int .i64 q4, .int .i64 q5, .int .i64 q6, .bool q7]) := OwnC.new w [.int .i64 q1, .int .i64 q2, .int .i64 q3, .int .i64 q4, .int .i64 q5, .int .i64 q6, .bool q7] _ _ rfl
  generalize wi q5 1 1048576 = R1 at *
  generalize wi q6 1 1073741824 = R2 at *
  generalize okK (q2, q4) = R3 at *
  generalize okK (q3, q4) = R4 at *
  dsimp only [vTr, vKy] at C3 C4 ⊢
  cases R1
  · have HF : Hid (V = false) := by show _ = _; rw [HV.out]; rfl
    clear HV
    go_enter Tryz.func55, Tryz.ntmps55
    go_wp2_with (go_at_call 31; ((with_reducible refine (C1 _).mono ?_); rintro e w1 ⟨rfl, rfl⟩))
    go_ret
    exact ⟨ret_b HF.out.symm, grew_alloc _ _ _⟩
  · cases R2
    · have HF : Hid (V = false) := by show _ = _; rw [HV.out]; rfl
      clear HV
      go_enter Tryz.func55, Tryz.ntmps55
      go_wp2_with (first
        | (go_at_call 31; ((with_reducible refine (C1 _).mono ?_); rintro e w1 ⟨rfl, rfl⟩))
        | (go_at_call 31; ((with_reducible refine (C2 _).mono ?_); rintro e w1 ⟨rfl, rfl⟩)))
      go_ret
      exact ⟨ret_b HF.out.symm, grew_alloc _ _ _⟩
    · cases R3
      · have HF : Hid (V = false) := by show _ = _; rw [HV.out]; rfl
        clear HV
        go_enter Tryz.func55, Tryz.ntmps55
        go_wp2_with (first
          | (go_at_call 31; ((with_reducible refine (C1 _).mono ?_); rintro e w1 ⟨rfl, rfl⟩))
          | (go_at_call 31; ((with_reducible refine (C2 _).mono ?_); rintro e w1 ⟨rfl, rfl⟩))
          | (go_at_call 57; ((with_reducible refine (C3 _).mono ?_); rintro e w1 ⟨rfl, hg⟩; have HG1 := Lib.hid (own_back hg); clear hg)))
        go_ret
        exact ⟨ret_b HF.out.symm, HG1.out⟩
      · cases R4
        · have HF : Hid (V = false) := by show _ = _; rw [HV.out]; rfl
          clear HV
          go_enter Tryz.func55, Tryz.ntmps55
          go_wp2_with (first
            | (go_at_call 31; ((with_reducible refine (C1 _).mono ?_); rintro e w1 ⟨rfl, rfl⟩))
            | (go_at_call 31; ((with_reducible refine (C2 _).mono ?_); rintro e w1 ⟨rfl, rfl⟩))
            | (go_at_call 57; ((with_reducible refine (C3 _).mono ?_); rintro e w1 ⟨rfl, hg⟩; have HG1 := Lib.hid (own_back hg); have HX1 := Lib.hid (HX0.out.keep hg); have x2 : w1.cell? ⟨w.heap.size, 2, none⟩ = some (.int .i64 q3) := HX1.out.at 2 _ rfl; have x3 : w1.cell? ⟨w.heap.size, 3, none⟩ = some (.int .i64 q4) := HX1.out.at 3 _ rfl; clear hg C3))
            | (go_at_call 57; ((with_reducible refine (C4 _).mono ?_); rintro e w2 ⟨rfl, hg⟩; have HG2 := Lib.hid (grew_trans HG1.out hg); clear hg)))
          go_ret
          exact ⟨ret_b HF.out.symm, HG2.out⟩
        · have HF : Hid (V = !(decide (q2 = q3))) := by show _ = _; rw [HV.out]; rfl
          clear HV
          by_cases h5 : q2 = q3
          · have HF2 : Hid (V = false) := by show _ = _; rw [HF.out, decide_eq_true h5]; rfl
            subst h5
            clear HF
            go_enter Tryz.func55, Tryz.ntmps55
            go_wp2_with (first
              | (go_at_call 31; ((with_reducible refine (C1 _).mono ?_); rintro e w1 ⟨rfl, rfl⟩))
              | (go_at_call 31; ((with_reducible refine (C2 _).mono ?_); rintro e w1 ⟨rfl, rfl⟩))
              | (go_at_call 57; ((with_reducible refine (C3 _).mono ?_); rintro e w1 ⟨rfl, hg⟩; have HG1 := Lib.hid (own_back hg); have HX1 := Lib.hid (HX0.out.keep hg); have x2 : w1.cell? ⟨w.heap.size, 2, none⟩ = some (.int .i64 q2) := HX1.out.at 2 _ rfl; have x3 : w1.cell? ⟨w.heap.size, 3, none⟩ = some (.int .i64 q4) := HX1.out.at 3 _ rfl; clear hg C3))
              | (go_at_call 57; ((with_reducible refine (C4 _).mono ?_); rintro e w2 ⟨rfl, hg⟩; have HG2 := Lib.hid (grew_trans HG1.out hg); have HX2 := Lib.hid (HX1.out.keep hg); have y1 : w2.cell? ⟨w.heap.size, 1, none⟩ = some (.int .i64 q2) := HX2.out.at 1 _ rfl; have y2 : w2.cell? ⟨w.heap.size, 2, none⟩ = some (.int .i64 q2) := HX2.out.at 2 _ rfl; clear hg)))
            go_ret
            exact ⟨ret_b HF2.out.symm, HG2.out⟩
          · have HF2 : Hid (V = true) := by show _ = _; rw [HF.out, decide_eq_false h5]; rfl
            have d1 : (q2 != q3) = true := by simpa using h5
            clear HF h5
            go_enter Tryz.func55, Tryz.ntmps55
            go_wp2_with (first
              | (go_at_call 31; ((with_reducible refine (C1 _).mono ?_); rintro e w1 ⟨rfl, rfl⟩))
              | (go_at_call 31; ((with_reducible refine (C2 _).mono ?_); rintro e w1 ⟨rfl, rfl⟩))
              | (go_at_call 57; ((with_reducible refine (C3 _).mono ?_); rintro e w1 ⟨rfl, hg⟩; have HG1 := Lib.hid (own_back hg); have HX1 := Lib.hid (HX0.out.keep hg); have x2 : w1.cell? ⟨w.heap.size, 2, none⟩ = some (.int .i64 q3) := HX1.out.at 2 _ rfl; have x3 : w1.cell? ⟨w.heap.size, 3, none⟩ = some (.int .i64 q4) := HX1.out.at 3 _ rfl; clear hg C3))
              | (go_at_call 57; ((with_reducible refine (C4 _).mono ?_); rintro e w2 ⟨rfl, hg⟩; have HG2 := Lib.hid (grew_trans HG1.out hg); have HX2 := Lib.hid (HX1.out.keep hg); have y1 : w2.cell? ⟨w.heap.size, 1, none⟩ = some (.int .i64 q2) := HX2.out.at 1 _ rfl; have y2 : w2.cell? ⟨w.heap.size, 2, none⟩ = some (.int .i64 q3) := HX2.out.at 2 _ rfl; clear hg)))
            go_ret
            exact ⟨ret_b HF2.out.symm, HG2.out⟩
end Go.Proofs.YtahioajpmlochaaGreat.NumK
namespace Go.Proofs.YtahioajpmlochaaGreat.NumK
open Go.RowKit

/-! ### Int: as money -/



set_option maxHeartbeats 1000000 in
theorem refInt_money (x : Int) (w : World) (h : isMoney x = true) :
    Calls Tryz.prog 50 #[(.agg #[.int .i64 (hi64 (x)), .int .u64 (lo64 (x))])] w fun e w' => e = .returned (.tuple #[.int .i64 (intV x), .bool (isMoney x)]) ∧ Grew w w' := by
  have hx := (isMoney_iff x).1 h
  have b1 := lo_bounds x
  have L : wrap64 (lo64 x) = x := by unfold wrap64 lo64; omega
  have C1 := fun w => of_any x w (by omega)
  have C2 := fun w => refRight_any x w
  rw [h] at C2
  have E1 := Lib.hid (intV_in h)
  have E2 := Lib.hid h
  clear h hx b1
  generalize hi64 x = hh at *
  generalize lo64 x = l at *
  go_enter Tryz.func50, Tryz.ntmps50
  go_wp2
  go_region_held3 (fun w' => w'.cell? ⟨w.heap.size, 0, none⟩ = some (.int .i64 hh) ∧ w'.cell? ⟨w.heap.size, 1, none⟩ = some (.int .u64 l) ∧ w.heap.size < w'.heap.size ∧ Grew w w')
    (first
      | (exact keep2 (by assumption) (by first | assumption | simp) (by first | assumption | simp) (by first | assumption | simp) (by first | assumption | exact grew_drew (grew_alloc _ _ _)))
      | (refine ⟨by simp, by simp, by simp, grew_drew (grew_alloc _ _ _)⟩))
    (first
      | (go_at_call 48; refine (C1 _).mono ?_; rintro e w1 ⟨rfl, hg1⟩)
      | (go_at_call 23; refine (C2 _).mono ?_; rintro e w2 ⟨rfl, rfl⟩))
  rename_i hS
  go_wp2
  go_ret2
  exact ⟨ret_vb E1.out.symm E2.out.symm, hS.2.2.2⟩

set_option maxHeartbeats 1000000 in
theorem refInt_far (x : Int) (w : World) (h : isMoney x = false) (hf : hi64 (wrap64 (lo64 x)) ≠ hi64 x) :
    Calls Tryz.prog 50 #[(.agg #[.int .i64 (hi64 (x)), .int .u64 (lo64 (x))])] w fun e w' => e = .returned (.tuple #[.int .i64 (intV x), .bool (isMoney x)]) ∧ Grew w w' := by
  have b1 := lo_bounds x
  have bn : -9223372036854775808 ≤ wrap64 (lo64 x) ∧ wrap64 (lo64 x) ≤ 9223372036854775807 := by unfold wrap64; omega
  have hl : lo64 (wrap64 (lo64 x)) = lo64 x := by unfold wrap64 lo64; omega
  have C1 := fun w => of_any (wrap64 (lo64 x)) w bn
  have E1 := Lib.hid (intV_out h)
  have E2 := Lib.hid h
  have d1 : (hi64 (wrap64 (lo64 x)) == hi64 x) = false := by simpa using hf
  have d2 : (hi64 (wrap64 (lo64 x)) != hi64 x) = true := by simpa using hf
  have d3 : decide (hi64 (wrap64 (lo64 x)) = hi64 x) = false := by simpa using hf
  rw [hl] at C1
  clear h b1 hl hf
  generalize hi64 (wrap64 (lo64 x)) = hn at *
  generalize hi64 x = hh at *
  generalize lo64 x = l at *
  go_enter Tryz.func50, Tryz.ntmps50
  go_wp2
  first
  | (go_region_with (first
      | (go_at_call 48; refine (C1 _).mono ?_; rintro e w1 ⟨rfl, hg1⟩; have kc := keep2 (v0 := .int .i64 hh) (v1 := .int .u64 l) hg1 (by simp) (by simp) (by simp) (grew_drew (grew_alloc _ _ _)); obtain ⟨k1, k2, k3, k4⟩ := kc)))
  | fail
  all_goals
    go_wp2
    go_ret2
    exact ⟨ret_vb E1.out.symm E2.out.symm, by assumption⟩

set_option maxHeartbeats 1000000 in
theorem refInt_near (x : Int) (w : World) (h : isMoney x = false) (L : wrap64 (lo64 x) = x) :
    Calls Tryz.prog 50 #[(.agg #[.int .i64 (hi64 (x)), .int .u64 (lo64 (x))])] w fun e w' => e = .returned (.tuple #[.int .i64 (intV x), .bool (isMoney x)]) ∧ Grew w w' := by
  have b1 := lo_bounds x
  have bn : -9223372036854775808 ≤ wrap64 (lo64 x) ∧ wrap64 (lo64 x) ≤ 9223372036854775807 := by unfold wrap64; omega
  rw [L] at bn
  have C1 := fun w => of_any x w bn
  have C2 := fun w => refRight_any x w
  rw [h] at C2
  have E1 := Lib.hid (intV_out h)
  have E2 := Lib.hid h
  clear h b1
  generalize hi64 x = hh at *
  generalize lo64 x = l at *
  go_enter Tryz.func50, Tryz.ntmps50
  go_wp2
  go_region_held3 (fun w' => w'.cell? ⟨w.heap.size, 0, none⟩ = some (.int .i64 hh) ∧ w'.cell? ⟨w.heap.size, 1, none⟩ = some (.int .u64 l) ∧ w.heap.size < w'.heap.size ∧ Grew w w')
    (first
      | (exact keep2 (by assumption) (by first | assumption | simp) (by first | assumption | simp) (by first | assumption | simp) (by first | assumption | exact grew_drew (grew_alloc _ _ _)))
      | (refine ⟨by simp, by simp, by simp, grew_drew (grew_alloc _ _ _)⟩))
    (first
      | (go_at_call 48; refine (C1 _).mono ?_; rintro e w1 ⟨rfl, hg1⟩)
      | (go_at_call 23; refine (C2 _).mono ?_; rintro e w2 ⟨rfl, rfl⟩))
  rename_i hS
  go_wp2
  go_ret2
  exact ⟨ret_vb E1.out.symm E2.out.symm, hS.2.2.2⟩

theorem refInt_any (x : Int) (w : World) :
    Calls Tryz.prog 50 #[(.agg #[.int .i64 (hi64 (x)), .int .u64 (lo64 (x))])] w fun e w' => e = .returned (.tuple #[.int .i64 (intV x), .bool (isMoney x)]) ∧ Grew w w' := by
  by_cases h : isMoney x = true
  · exact refInt_money x w h
  · simp only [Bool.not_eq_true] at h
    by_cases hf : hi64 (wrap64 (lo64 x)) = hi64 x
    · refine refInt_near x w h ?_
      have b1 := lo_bounds x
      have e1 := w_eq x
      have e2 := w_eq (wrap64 (lo64 x))
      have hl : lo64 (wrap64 (lo64 x)) = lo64 x := by unfold wrap64 lo64; omega
      rw [hf, hl] at e2
      omega
    · exact refInt_far x w h hf
end Go.Proofs.YtahioajpmlochaaGreat.NumK
