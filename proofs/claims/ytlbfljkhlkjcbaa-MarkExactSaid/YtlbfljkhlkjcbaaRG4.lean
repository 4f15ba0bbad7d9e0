/- Trades and positions in memory; whether a trade's numbers may be. -/
import Derived.Test.YtlbfljkhlkjcbaaRG2
import Derived.Deep.RegionHeld3
namespace Go.Proofs.Ytlbfljkhlkjcbaa.NumK
open Go.RowKit
set_option linter.unusedVariables false

def enPo : En Po := ⟨4, fun x => [.int .i64 x.1, .int .i64 x.2.1, .int .i64 x.2.2.1, .int .i64 x.2.2.2], fun _ => rfl, fun a v hv => by
  simp at hv; rcases hv with rfl | rfl | rfl | rfl <;> rfl, by decide⟩
def enTr : En Tr := ⟨7, fun t => [.int .i64 t.1.1, .int .i64 t.1.2.1, .int .i64 t.1.2.2.1, .int .i64 t.1.2.2.2.1, .int .i64 t.1.2.2.2.2.1, .int .i64 t.1.2.2.2.2.2, .bool t.2], fun _ => rfl, fun a v hv => by
  simp at hv; rcases hv with rfl | rfl | rfl | rfl | rfl | rfl | rfl <;> rfl, by decide⟩
abbrev vPo (x : Po) : Value := .agg #[.int .i64 x.1, .int .i64 x.2.1, .int .i64 x.2.2.1, .int .i64 x.2.2.2]
abbrev vTr (t : Tr) : Value := .agg #[.int .i64 t.1.1, .int .i64 t.1.2.1, .int .i64 t.1.2.2.1, .int .i64 t.1.2.2.2.1, .int .i64 t.1.2.2.2.2.1, .int .i64 t.1.2.2.2.2.2, .bool t.2]
theorem info_po : (Try.prog.info? 34).map (fun i => (i.zero, i.size, i.bytes)) = some (some (vPo po0), 4, 32) := by kernel_rfl

def CPo (w : World) (b p : Nat) (x : Po) : Prop :=
  w.cell? ⟨b, p, none⟩ = some (.int .i64 x.1) ∧ w.cell? ⟨b, p + 1, none⟩ = some (.int .i64 x.2.1) ∧ w.cell? ⟨b, p + 2, none⟩ = some (.int .i64 x.2.2.1) ∧ w.cell? ⟨b, p + 3, none⟩ = some (.int .i64 x.2.2.2)
theorem CPo.keep {w w' : World} {b p : Nat} {x : Po} (h : CPo w b p x) (g : Grew w w') (hb : b < w.heap.size) : CPo w' b p x :=
  ⟨(grew_cell g (p := ⟨b, _, none⟩) hb).trans h.1, (grew_cell g (p := ⟨b, _, none⟩) hb).trans h.2.1, (grew_cell g (p := ⟨b, _, none⟩) hb).trans h.2.2.1, (grew_cell g (p := ⟨b, _, none⟩) hb).trans h.2.2.2⟩
theorem RowE.po {w : World} {n : Nat} {l : List Po} {A : Option Addr} (h : RowE enPo w A n l) {j : Nat} (hj : j < n) : ∃ b o, A = some ⟨b, o, none⟩ ∧ b < w.heap.size ∧ ∀ j, j < n → CPo w b (o + j * 4) (l.getD j po0) := by
  have hl := h.len
  obtain ⟨b, o, e, hb, hc⟩ := h.at (by omega)
  refine ⟨b, o, e, hb, fun j hj => ?_⟩
  have hj' : j < l.length := by omega
  rw [getD_at l po0 j hj']
  exact ⟨hc j hj' 0 (by decide), hc j hj' 1 (by decide), hc j hj' 2 (by decide), hc j hj' 3 (by decide)⟩
def CTr (w : World) (b p : Nat) (t : Tr) : Prop :=
  w.cell? ⟨b, p, none⟩ = some (.int .i64 t.1.1) ∧ w.cell? ⟨b, p + 1, none⟩ = some (.int .i64 t.1.2.1) ∧ w.cell? ⟨b, p + 2, none⟩ = some (.int .i64 t.1.2.2.1) ∧ w.cell? ⟨b, p + 3, none⟩ = some (.int .i64 t.1.2.2.2.1)
  ∧ w.cell? ⟨b, p + 4, none⟩ = some (.int .i64 t.1.2.2.2.2.1) ∧ w.cell? ⟨b, p + 5, none⟩ = some (.int .i64 t.1.2.2.2.2.2) ∧ w.cell? ⟨b, p + 6, none⟩ = some (.bool t.2)
theorem CTr.keep {w w' : World} {b p : Nat} {t : Tr} (h : CTr w b p t) (g : Grew w w') (hb : b < w.heap.size) : CTr w' b p t := by
  obtain ⟨h0, h1, h2, h3, h4, h5, h6⟩ := h
  exact ⟨(grew_cell g (p := ⟨b, _, none⟩) hb).trans h0, (grew_cell g (p := ⟨b, _, none⟩) hb).trans h1, (grew_cell g (p := ⟨b, _, none⟩) hb).trans h2, (grew_cell g (p := ⟨b, _, none⟩) hb).trans h3,
    (grew_cell g (p := ⟨b, _, none⟩) hb).trans h4, (grew_cell g (p := ⟨b, _, none⟩) hb).trans h5, (grew_cell g (p := ⟨b, _, none⟩) hb).trans h6⟩
theorem RowE.tr {w : World} {n : Nat} {l : List Tr} {A : Option Addr} (h : RowE enTr w A n l) {j : Nat} (hj : j < n) : ∃ b o, A = some ⟨b, o, none⟩ ∧ b < w.heap.size ∧ ∀ j, j < n → CTr w b (o + j * 7) (l.getD j tr0) := by
  have hl := h.len
  obtain ⟨b, o, e, hb, hc⟩ := h.at (by omega)
  refine ⟨b, o, e, hb, fun j hj => ?_⟩
  have hj' : j < l.length := by omega
  rw [getD_at l tr0 j hj']
  exact ⟨hc j hj' 0 (by decide), hc j hj' 1 (by decide), hc j hj' 2 (by decide), hc j hj' 3 (by decide), hc j hj' 4 (by decide), hc j hj' 5 (by decide), hc j hj' 6 (by decide)⟩

set_option maxRecDepth 100000 in
theorem rsized_any (t : Tr) (w : World) : Calls Try.prog 92 #[vTr t] w fun e w' => e = .returned (.bool (sizedT t)) ∧ Grew w w' := by
  obtain ⟨⟨q1, q2, q3, q4, q5, q6⟩, q7⟩ := t
  have HV : Hid (sizedT ((q1, q2, q3, q4, q5, q6), q7) = (wi q5 1 1048576 && wi q6 1 1073741824)) := rfl
  have CW1 := fun w => rwithin_any q5 1 1048576 w
  have CW2 := fun w => rwithin_any q6 1 1073741824 w
  generalize sizedT ((q1, q2, q3, q4, q5, q6), q7) = V at *
  generalize wi q5 1 1048576 = R1 at *
  generalize wi q6 1 1073741824 = R2 at *
  dsimp only [vTr]
  cases R1
  · have HF : Hid (V = false) := by show _ = _; rw [HV.out]; rfl
    clear HV
    go_enter Try.func92, Try.ntmps92
    go_wp2_with (go_at_call 34; ((with_reducible refine (CW1 _).mono ?_); rintro e w1 ⟨rfl, rfl⟩))
    go_ret
    exact ⟨ret_b HF.out.symm, grew_alloc _ _ _⟩
  · have HF : Hid (V = R2) := by show _ = _; rw [HV.out]; rfl
    clear HV
    go_enter Try.func92, Try.ntmps92
    go_wp2_with (first
      | (go_at_call 34; ((with_reducible refine (CW1 _).mono ?_); rintro e w1 ⟨rfl, rfl⟩))
      | (go_at_call 34; ((with_reducible refine (CW2 _).mono ?_); rintro e w1 ⟨rfl, rfl⟩)))
    go_ret
    exact ⟨ret_b HF.out.symm, grew_alloc _ _ _⟩
end Go.Proofs.Ytlbfljkhlkjcbaa.NumK
namespace Go.Proofs.Ytlbfljkhlkjcbaa.NumK
open Go.RowKit
set_option linter.unusedVariables false

theorem info_tr : (Try.prog.info? 86).map (fun i => (i.zero, i.size, i.bytes)) = some (some (vTr tr0), 7, 56) := by kernel_rfl
abbrev vKy (k : Ky) : Value := .agg #[.int .i64 k.1, .int .i64 k.2]

theorem bwithin_any (n lo hi : Int) (w : World) : Calls Try.prog 67 #[.int .i64 n, .int .i64 lo, .int .i64 hi] w fun e w' => e = .returned (.bool (wi n lo hi)) ∧ w = w' := by
  by_cases h1 : lo ≤ n <;> by_cases h2 : n ≤ hi
  all_goals
    (have HR : Hid (wi n lo hi = (decide (lo ≤ n) && decide (n ≤ hi))) := rfl
     generalize wi n lo hi = R at *
     simp only [h1, h2, decide_true, decide_false, Bool.and_true, Bool.and_false] at HR
     go_enter Try.func67, Try.ntmps67
     go_wp2
     go_ret
     exact ⟨ret_b HR.out.symm, rfl⟩)

theorem permitted_any (a b : Int) (w : World) : Calls Try.prog 83 #[vKy (a, b)] w fun e w' => e = .returned (.bool (okK (a, b))) ∧ Grew w w' := by
  have HV : Hid (okK (a, b) = (wi a 1 16 && wi b 1 8)) := rfl
  have C1 := fun w => bwithin_any a 1 16 w
  have C2 := fun w => bwithin_any b 1 8 w
  generalize okK (a, b) = V at *
  generalize wi a 1 16 = R1 at *
  generalize wi b 1 8 = R2 at *
  dsimp only [vKy]
  cases R1
  · have HF : Hid (V = false) := by show _ = _; rw [HV.out]; rfl
    clear HV
    go_enter Try.func83, Try.ntmps83
    go_wp2_with (go_at_call 67; ((with_reducible refine (C1 _).mono ?_); rintro e w1 ⟨rfl, rfl⟩))
    go_ret
    exact ⟨ret_b HF.out.symm, grew_alloc _ _ _⟩
  · have HF : Hid (V = R2) := by show _ = _; rw [HV.out]; rfl
    clear HV
    go_enter Try.func83, Try.ntmps83
    go_wp2_with (first
      | (go_at_call 67; ((with_reducible refine (C1 _).mono ?_); rintro e w1 ⟨rfl, rfl⟩))
      | (go_at_call 67; ((with_reducible refine (C2 _).mono ?_); rintro e w1 ⟨rfl, rfl⟩)))
    go_ret
    exact ⟨ret_b HF.out.symm, grew_alloc _ _ _⟩

theorem rkey_any (a b : Int) (w : World) : Calls Try.prog 75 #[vKy (a, b)] w fun e w' => e = .returned (.bool (okK (a, b))) ∧ Grew w w' := by
  have HV : Hid (okK (a, b) = (wi a 1 16 && wi b 1 8)) := rfl
  have C1 := fun w => rwho_any a w
  have C2 := fun w => rwithin_any b 1 8 w
  generalize okK (a, b) = V at *
  generalize wi a 1 16 = R1 at *
  generalize wi b 1 8 = R2 at *
  dsimp only [vKy]
  cases R1
  · have HF : Hid (V = false) := by show _ = _; rw [HV.out]; rfl
    clear HV
    go_enter Try.func75, Try.ntmps75
    go_wp2_with (go_at_call 90; ((with_reducible refine (C1 _).mono ?_); rintro e w1 ⟨rfl, rfl⟩))
    go_ret
    exact ⟨ret_b HF.out.symm, grew_alloc _ _ _⟩
  · have HF : Hid (V = R2) := by show _ = _; rw [HV.out]; rfl
    clear HV
    go_enter Try.func75, Try.ntmps75
    go_wp2_with (first
      | (go_at_call 90; ((with_reducible refine (C1 _).mono ?_); rintro e w1 ⟨rfl, rfl⟩))
      | (go_at_call 34; ((with_reducible refine (C2 _).mono ?_); rintro e w1 ⟨rfl, rfl⟩)))
    go_ret
    exact ⟨ret_b HF.out.symm, grew_alloc _ _ _⟩

/-- Neither quantity nor cost. -/
def noneP (q c : Int) : Bool := decide (q = 0) && decide (c = 0)
theorem empty_any (x : Po) (w : World) : Calls Try.prog 84 #[vPo x] w fun e w' => e = .returned (.bool (noneP x.2.2.1 x.2.2.2)) ∧ Grew w w' := by
  obtain ⟨q1, q2, q3, q4⟩ := x
  have HV : Hid (noneP q3 q4 = (decide (q3 = 0) && decide (q4 = 0))) := rfl
  dsimp only [vPo]
  generalize noneP q3 q4 = V at *
  by_cases h1 : q3 = 0
  · by_cases h2 : q4 = 0
    · have HF : Hid (V = true) := by show _ = _; rw [HV.out, decide_eq_true h1, decide_eq_true h2]; rfl
      clear HV
      subst h1 h2
      go_enter Try.func84, Try.ntmps84
      go_wp2
      go_ret
      exact ⟨ret_b HF.out.symm, grew_alloc _ _ _⟩
    · have HF : Hid (V = false) := by show _ = _; rw [HV.out, decide_eq_false h2]; simp
      have d1 : (q4 == 0) = false := by simpa using h2
      clear HV h2
      subst h1
      go_enter Try.func84, Try.ntmps84
      go_wp2
      go_ret
      exact ⟨ret_b HF.out.symm, grew_alloc _ _ _⟩
  · have HF : Hid (V = false) := by show _ = _; rw [HV.out, decide_eq_false h1]; simp
    have d1 : (q3 == 0) = false := by simpa using h1
    clear HV h1
    go_enter Try.func84, Try.ntmps84
    go_wp2
    go_ret
    exact ⟨ret_b HF.out.symm, grew_alloc _ _ _⟩

theorem less_any (a b c d : Int) (w : World) : Calls Try.prog 85 #[vKy (a, b), vKy (c, d)] w fun e w' => e = .returned (.bool (kltB (a, b) (c, d))) ∧ Grew w w' := by
  have HV : Hid (kltB (a, b) (c, d) = (decide (a < c) || (decide (a = c) && decide (b < d)))) := rfl
  generalize kltB (a, b) (c, d) = V at *
  dsimp only [vKy]
  by_cases h1 : a < c
  · have HF : Hid (V = true) := by show _ = _; rw [HV.out, decide_eq_true h1]; rfl
    clear HV
    go_enter Try.func85, Try.ntmps85
    go_wp2
    go_ret
    exact ⟨ret_b HF.out.symm, grew_trans (grew_alloc _ _ _) (grew_alloc _ _ _)⟩
  · by_cases h2 : a = c
    · by_cases h3 : b < d
      all_goals
        (have HF := Lib.hid HV.out
         simp only [h2, h3, decide_true, decide_false, Bool.and_true, Bool.and_false, Bool.or_false, Bool.or_true] at HF
         subst h2
         clear HV
         go_enter Try.func85, Try.ntmps85
         go_wp2
         go_ret
         exact ⟨ret_b (by rw [HF.out]; try simp), grew_trans (grew_alloc _ _ _) (grew_alloc _ _ _)⟩)
    · have HF : Hid (V = false) := by show _ = _; rw [HV.out, decide_eq_false h1, decide_eq_false h2]; rfl
      have d1 : (a == c) = false := by simpa using h2
      clear HV h2
      go_enter Try.func85, Try.ntmps85
      go_wp2
      go_ret
      exact ⟨ret_b HF.out.symm, grew_trans (grew_alloc _ _ _) (grew_alloc _ _ _)⟩

theorem rless_any (a b c d : Int) (w : World) : Calls Try.prog 76 #[vKy (a, b), vKy (c, d)] w fun e w' => e = .returned (.bool (kltB (a, b) (c, d))) ∧ Grew w w' := by
  have HV : Hid (kltB (a, b) (c, d) = (decide (a < c) || (decide (a = c) && decide (b < d)))) := rfl
  generalize kltB (a, b) (c, d) = V at *
  dsimp only [vKy]
  by_cases h1 : a < c
  · have HF : Hid (V = true) := by show _ = _; rw [HV.out, decide_eq_true h1]; rfl
    clear HV
    go_enter Try.func76, Try.ntmps76
    go_wp2
    go_ret
    exact ⟨ret_b HF.out.symm, grew_trans (grew_alloc _ _ _) (grew_alloc _ _ _)⟩
  · by_cases h2 : a = c
    · by_cases h3 : b < d
      all_goals
        (have HF := Lib.hid HV.out
         simp only [h2, h3, decide_true, decide_false, Bool.and_true, Bool.and_false, Bool.or_false, Bool.or_true] at HF
         subst h2
         clear HV
         go_enter Try.func76, Try.ntmps76
         go_wp2
         go_ret
         exact ⟨ret_b (by rw [HF.out]; try simp), grew_trans (grew_alloc _ _ _) (grew_alloc _ _ _)⟩)
    · have HF : Hid (V = false) := by show _ = _; rw [HV.out, decide_eq_false h1, decide_eq_false h2]; rfl
      have d1 : (a == c) = false := by simpa using h2
      clear HV h2
      go_enter Try.func76, Try.ntmps76
      go_wp2
      go_ret
      exact ⟨ret_b HF.out.symm, grew_trans (grew_alloc _ _ _) (grew_alloc _ _ _)⟩

theorem nums_alt (t : Tr) : numsT t = ((((wi t.1.2.2.2.2.1 1 1048576 && wi t.1.2.2.2.2.2 1 1073741824) && okK (t.1.2.1, t.1.2.2.2.1)) && okK (t.1.2.2.1, t.1.2.2.2.1)) && !(decide (t.1.2.1 = t.1.2.2.1))) := by
  unfold numsT sizedT sizedB okK
  simp only
  cases wi t.1.2.2.2.2.1 1 1048576 <;> cases wi t.1.2.2.2.2.2 1 1073741824 <;> cases wi t.1.2.1 1 16 <;> cases wi t.1.2.2.1 1 16 <;> cases wi t.1.2.2.2.1 1 8 <;> simp

set_option maxRecDepth 100000 in
set_option maxHeartbeats 2000000 in
theorem rightTrade_any (t : Tr) (w : World) : Calls Try.prog 87 #[vTr t] w fun e w' => e = .returned (.bool (numsT t)) ∧ Grew w w' := by
  have HV := Lib.hid (nums_alt t)
  generalize numsT t = V at *
  obtain ⟨⟨q1, q2, q3, q4, q5, q6⟩, q7⟩ := t
  dsimp only at HV
  have C1 := fun w => bwithin_any q5 1 1048576 w
  have C2 := fun w => bwithin_any q6 1 1073741824 w
  have C3 := fun w => permitted_any q2 q4 w
  have C4 := fun w => permitted_any q3 q4 w
  have HX0 : Hid (OwnC (w.alloc (.cells #[.int .i64 q1, .int .i64 q2, .int .i64 q3, .int .i64 q4, .int .i64 q5, .int .i64 q6, .bool q7] 86)) w.heap.size [.int .i64 q1, .int .i64 q2, .int .i64 q3, .int .i64 q4, .int .i64 q5, .int .i64 q6, .bool q7]) := OwnC.new w [.int .i64 q1, .int .i64 q2, .int .i64 q3, .int .i64 q4, .int .i64 q5, .int .i64 q6, .bool q7] _ _ rfl
  generalize wi q5 1 1048576 = R1 at *
  generalize wi q6 1 1073741824 = R2 at *
  generalize okK (q2, q4) = R3 at *
  generalize okK (q3, q4) = R4 at *
  dsimp only [vTr, vKy] at C3 C4 ⊢
  cases R1
  · have HF : Hid (V = false) := by show _ = _; rw [HV.out]; rfl
    clear HV
    go_enter Try.func87, Try.ntmps87
    go_wp2_with (go_at_call 67; ((with_reducible refine (C1 _).mono ?_); rintro e w1 ⟨rfl, rfl⟩))
    go_ret
    exact ⟨ret_b HF.out.symm, grew_alloc _ _ _⟩
  · cases R2
    · have HF : Hid (V = false) := by show _ = _; rw [HV.out]; rfl
      clear HV
      go_enter Try.func87, Try.ntmps87
      go_wp2_with (first
        | (go_at_call 67; ((with_reducible refine (C1 _).mono ?_); rintro e w1 ⟨rfl, rfl⟩))
        | (go_at_call 67; ((with_reducible refine (C2 _).mono ?_); rintro e w1 ⟨rfl, rfl⟩)))
      go_ret
      exact ⟨ret_b HF.out.symm, grew_alloc _ _ _⟩
    · cases R3
      · have HF : Hid (V = false) := by show _ = _; rw [HV.out]; rfl
        clear HV
        go_enter Try.func87, Try.ntmps87
        go_wp2_with (first
          | (go_at_call 67; ((with_reducible refine (C1 _).mono ?_); rintro e w1 ⟨rfl, rfl⟩))
          | (go_at_call 67; ((with_reducible refine (C2 _).mono ?_); rintro e w1 ⟨rfl, rfl⟩))
          | (go_at_call 83; ((with_reducible refine (C3 _).mono ?_); rintro e w1 ⟨rfl, hg⟩; have HG1 := Lib.hid (own_back hg); clear hg)))
        go_ret
        exact ⟨ret_b HF.out.symm, HG1.out⟩
      · cases R4
        · have HF : Hid (V = false) := by show _ = _; rw [HV.out]; rfl
          clear HV
          go_enter Try.func87, Try.ntmps87
          go_wp2_with (first
            | (go_at_call 67; ((with_reducible refine (C1 _).mono ?_); rintro e w1 ⟨rfl, rfl⟩))
            | (go_at_call 67; ((with_reducible refine (C2 _).mono ?_); rintro e w1 ⟨rfl, rfl⟩))
            | (go_at_call 83; ((with_reducible refine (C3 _).mono ?_); rintro e w1 ⟨rfl, hg⟩; have HG1 := Lib.hid (own_back hg); have HX1 := Lib.hid (HX0.out.keep hg); have x2 : w1.cell? ⟨w.heap.size, 2, none⟩ = some (.int .i64 q3) := HX1.out.at 2 _ rfl; have x3 : w1.cell? ⟨w.heap.size, 3, none⟩ = some (.int .i64 q4) := HX1.out.at 3 _ rfl; clear hg C3))
            | (go_at_call 83; ((with_reducible refine (C4 _).mono ?_); rintro e w2 ⟨rfl, hg⟩; have HG2 := Lib.hid (grew_trans HG1.out hg); clear hg)))
          go_ret
          exact ⟨ret_b HF.out.symm, HG2.out⟩
        · have HF : Hid (V = !(decide (q2 = q3))) := by show _ = _; rw [HV.out]; rfl
          clear HV
          by_cases h5 : q2 = q3
          · have HF2 : Hid (V = false) := by show _ = _; rw [HF.out, decide_eq_true h5]; rfl
            subst h5
            clear HF
            go_enter Try.func87, Try.ntmps87
            go_wp2_with (first
              | (go_at_call 67; ((with_reducible refine (C1 _).mono ?_); rintro e w1 ⟨rfl, rfl⟩))
              | (go_at_call 67; ((with_reducible refine (C2 _).mono ?_); rintro e w1 ⟨rfl, rfl⟩))
              | (go_at_call 83; ((with_reducible refine (C3 _).mono ?_); rintro e w1 ⟨rfl, hg⟩; have HG1 := Lib.hid (own_back hg); have HX1 := Lib.hid (HX0.out.keep hg); have x2 : w1.cell? ⟨w.heap.size, 2, none⟩ = some (.int .i64 q2) := HX1.out.at 2 _ rfl; have x3 : w1.cell? ⟨w.heap.size, 3, none⟩ = some (.int .i64 q4) := HX1.out.at 3 _ rfl; clear hg C3))
              | (go_at_call 83; ((with_reducible refine (C4 _).mono ?_); rintro e w2 ⟨rfl, hg⟩; have HG2 := Lib.hid (grew_trans HG1.out hg); have HX2 := Lib.hid (HX1.out.keep hg); have y1 : w2.cell? ⟨w.heap.size, 1, none⟩ = some (.int .i64 q2) := HX2.out.at 1 _ rfl; have y2 : w2.cell? ⟨w.heap.size, 2, none⟩ = some (.int .i64 q2) := HX2.out.at 2 _ rfl; clear hg)))
            go_ret
            exact ⟨ret_b HF2.out.symm, HG2.out⟩
          · have HF2 : Hid (V = true) := by show _ = _; rw [HF.out, decide_eq_false h5]; rfl
            have d1 : (q2 != q3) = true := by simpa using h5
            clear HF h5
            go_enter Try.func87, Try.ntmps87
            go_wp2_with (first
              | (go_at_call 67; ((with_reducible refine (C1 _).mono ?_); rintro e w1 ⟨rfl, rfl⟩))
              | (go_at_call 67; ((with_reducible refine (C2 _).mono ?_); rintro e w1 ⟨rfl, rfl⟩))
              | (go_at_call 83; ((with_reducible refine (C3 _).mono ?_); rintro e w1 ⟨rfl, hg⟩; have HG1 := Lib.hid (own_back hg); have HX1 := Lib.hid (HX0.out.keep hg); have x2 : w1.cell? ⟨w.heap.size, 2, none⟩ = some (.int .i64 q3) := HX1.out.at 2 _ rfl; have x3 : w1.cell? ⟨w.heap.size, 3, none⟩ = some (.int .i64 q4) := HX1.out.at 3 _ rfl; clear hg C3))
              | (go_at_call 83; ((with_reducible refine (C4 _).mono ?_); rintro e w2 ⟨rfl, hg⟩; have HG2 := Lib.hid (grew_trans HG1.out hg); have HX2 := Lib.hid (HX1.out.keep hg); have y1 : w2.cell? ⟨w.heap.size, 1, none⟩ = some (.int .i64 q2) := HX2.out.at 1 _ rfl; have y2 : w2.cell? ⟨w.heap.size, 2, none⟩ = some (.int .i64 q3) := HX2.out.at 2 _ rfl; clear hg)))
            go_ret
            exact ⟨ret_b HF2.out.symm, HG2.out⟩
end Go.Proofs.Ytlbfljkhlkjcbaa.NumK
namespace Go.Proofs.Ytlbfljkhlkjcbaa.NumK
open Go.RowKit

def enMb : En Mb := ⟨3, fun x => [.int .i64 x.1, .int .i64 x.2.1, .int .i64 x.2.2], fun _ => rfl, fun a v hv => by
  simp at hv; rcases hv with rfl | rfl | rfl <;> rfl, by decide⟩
def enAs : En As := ⟨4, fun x => [.int .i64 x.1, .int .i64 x.2.1, .int .i64 x.2.2.1, .int .i64 x.2.2.2], fun _ => rfl, fun a v hv => by
  simp at hv; rcases hv with rfl | rfl | rfl | rfl <;> rfl, by decide⟩
def enIn : En In := ⟨12, fun x => [.int .i64 x.1.1, .int .i64 x.1.2.1, .int .i64 x.1.2.2.1, .int .i64 x.1.2.2.2.1, .int .i64 x.1.2.2.2.2.1, .int .i64 x.1.2.2.2.2.2,
    .int .i64 x.2.1, .int .i64 x.2.2.1, .int .i64 x.2.2.2.1, .int .i64 x.2.2.2.2.1, .int .i64 x.2.2.2.2.2.1, .int .i64 x.2.2.2.2.2.2], fun _ => rfl, fun a v hv => by
  simp at hv; rcases hv with rfl | rfl | rfl | rfl | rfl | rfl | rfl | rfl | rfl | rfl | rfl | rfl <;> rfl, by decide⟩

abbrev vMb (x : Mb) : Value := .agg #[.int .i64 x.1, .int .i64 x.2.1, .int .i64 x.2.2]
abbrev vAs (x : As) : Value := .agg #[.int .i64 x.1, .int .i64 x.2.1, .int .i64 x.2.2.1, .int .i64 x.2.2.2]
abbrev vIn (x : In) : Value := .agg #[.int .i64 x.1.1, .int .i64 x.1.2.1, .int .i64 x.1.2.2.1, .int .i64 x.1.2.2.2.1, .int .i64 x.1.2.2.2.2.1, .int .i64 x.1.2.2.2.2.2,
    .int .i64 x.2.1, .int .i64 x.2.2.1, .int .i64 x.2.2.2.1, .int .i64 x.2.2.2.2.1, .int .i64 x.2.2.2.2.2.1, .int .i64 x.2.2.2.2.2.2]

/-- The cells at a place are such a one's. -/
def CMb (w : World) (b p : Nat) (x : Mb) : Prop :=
  w.cell? ⟨b, p, none⟩ = some (.int .i64 x.1) ∧ w.cell? ⟨b, p + 1, none⟩ = some (.int .i64 x.2.1) ∧ w.cell? ⟨b, p + 2, none⟩ = some (.int .i64 x.2.2)
def CAs (w : World) (b p : Nat) (x : As) : Prop :=
  w.cell? ⟨b, p, none⟩ = some (.int .i64 x.1) ∧ w.cell? ⟨b, p + 1, none⟩ = some (.int .i64 x.2.1) ∧ w.cell? ⟨b, p + 2, none⟩ = some (.int .i64 x.2.2.1) ∧ w.cell? ⟨b, p + 3, none⟩ = some (.int .i64 x.2.2.2)
def CIn (w : World) (b p : Nat) (x : In) : Prop :=
  w.cell? ⟨b, p, none⟩ = some (.int .i64 x.1.1) ∧ w.cell? ⟨b, p + 1, none⟩ = some (.int .i64 x.1.2.1) ∧ w.cell? ⟨b, p + 2, none⟩ = some (.int .i64 x.1.2.2.1) ∧ w.cell? ⟨b, p + 3, none⟩ = some (.int .i64 x.1.2.2.2.1)
  ∧ w.cell? ⟨b, p + 4, none⟩ = some (.int .i64 x.1.2.2.2.2.1) ∧ w.cell? ⟨b, p + 5, none⟩ = some (.int .i64 x.1.2.2.2.2.2) ∧ w.cell? ⟨b, p + 6, none⟩ = some (.int .i64 x.2.1) ∧ w.cell? ⟨b, p + 7, none⟩ = some (.int .i64 x.2.2.1)
  ∧ w.cell? ⟨b, p + 8, none⟩ = some (.int .i64 x.2.2.2.1) ∧ w.cell? ⟨b, p + 9, none⟩ = some (.int .i64 x.2.2.2.2.1) ∧ w.cell? ⟨b, p + 10, none⟩ = some (.int .i64 x.2.2.2.2.2.1) ∧ w.cell? ⟨b, p + 11, none⟩ = some (.int .i64 x.2.2.2.2.2.2)

theorem CMb.keep {w w' : World} {b p : Nat} {x : Mb} (h : CMb w b p x) (g : Grew w w') (hb : b < w.heap.size) : CMb w' b p x :=
  ⟨(grew_cell g (p := ⟨b, _, none⟩) hb).trans h.1, (grew_cell g (p := ⟨b, _, none⟩) hb).trans h.2.1, (grew_cell g (p := ⟨b, _, none⟩) hb).trans h.2.2⟩
theorem CAs.keep {w w' : World} {b p : Nat} {x : As} (h : CAs w b p x) (g : Grew w w') (hb : b < w.heap.size) : CAs w' b p x :=
  ⟨(grew_cell g (p := ⟨b, _, none⟩) hb).trans h.1, (grew_cell g (p := ⟨b, _, none⟩) hb).trans h.2.1, (grew_cell g (p := ⟨b, _, none⟩) hb).trans h.2.2.1, (grew_cell g (p := ⟨b, _, none⟩) hb).trans h.2.2.2⟩
theorem CIn.keep {w w' : World} {b p : Nat} {x : In} (h : CIn w b p x) (g : Grew w w') (hb : b < w.heap.size) : CIn w' b p x := by
  obtain ⟨h0, h1, h2, h3, h4, h5, h6, h7, h8, h9, h10, h11⟩ := h
  exact ⟨(grew_cell g (p := ⟨b, _, none⟩) hb).trans h0, (grew_cell g (p := ⟨b, _, none⟩) hb).trans h1, (grew_cell g (p := ⟨b, _, none⟩) hb).trans h2, (grew_cell g (p := ⟨b, _, none⟩) hb).trans h3,
    (grew_cell g (p := ⟨b, _, none⟩) hb).trans h4, (grew_cell g (p := ⟨b, _, none⟩) hb).trans h5, (grew_cell g (p := ⟨b, _, none⟩) hb).trans h6, (grew_cell g (p := ⟨b, _, none⟩) hb).trans h7,
    (grew_cell g (p := ⟨b, _, none⟩) hb).trans h8, (grew_cell g (p := ⟨b, _, none⟩) hb).trans h9, (grew_cell g (p := ⟨b, _, none⟩) hb).trans h10, (grew_cell g (p := ⟨b, _, none⟩) hb).trans h11⟩

theorem RowE.mb {w : World} {n : Nat} {l : List Mb} {A : Option Addr} (h : RowE enMb w A n l) {j : Nat} (hj : j < n) : ∃ b o, A = some ⟨b, o, none⟩ ∧ b < w.heap.size ∧ ∀ j, j < n → CMb w b (o + j * 3) (l.getD j mb0) := by
  have hl := h.len
  obtain ⟨b, o, e, hb, hc⟩ := h.at (by omega)
  refine ⟨b, o, e, hb, fun j hj => ?_⟩
  have hj' : j < l.length := by omega
  rw [getD_at l mb0 j hj']
  exact ⟨hc j hj' 0 (by decide), hc j hj' 1 (by decide), hc j hj' 2 (by decide)⟩
theorem RowE.as {w : World} {n : Nat} {l : List As} {A : Option Addr} (h : RowE enAs w A n l) {j : Nat} (hj : j < n) : ∃ b o, A = some ⟨b, o, none⟩ ∧ b < w.heap.size ∧ ∀ j, j < n → CAs w b (o + j * 4) (l.getD j as0) := by
  have hl := h.len
  obtain ⟨b, o, e, hb, hc⟩ := h.at (by omega)
  refine ⟨b, o, e, hb, fun j hj => ?_⟩
  have hj' : j < l.length := by omega
  rw [getD_at l as0 j hj']
  exact ⟨hc j hj' 0 (by decide), hc j hj' 1 (by decide), hc j hj' 2 (by decide), hc j hj' 3 (by decide)⟩
theorem RowE.in {w : World} {n : Nat} {l : List In} {A : Option Addr} (h : RowE enIn w A n l) {j : Nat} (hj : j < n) : ∃ b o, A = some ⟨b, o, none⟩ ∧ b < w.heap.size ∧ ∀ j, j < n → CIn w b (o + j * 12) (l.getD j in0) := by
  have hl := h.len
  obtain ⟨b, o, e, hb, hc⟩ := h.at (by omega)
  refine ⟨b, o, e, hb, fun j hj => ?_⟩
  have hj' : j < l.length := by omega
  rw [getD_at l in0 j hj']
  exact ⟨hc j hj' 0 (by decide), hc j hj' 1 (by decide), hc j hj' 2 (by decide), hc j hj' 3 (by decide), hc j hj' 4 (by decide), hc j hj' 5 (by decide), hc j hj' 6 (by decide), hc j hj' 7 (by decide), hc j hj' 8 (by decide), hc j hj' 9 (by decide), hc j hj' 10 (by decide), hc j hj' 11 (by decide)⟩

theorem info_mb : (Try.prog.info? 108).map (fun i => (i.zero, i.size, i.bytes)) = some (some (vMb mb0), 3, 24) := by kernel_rfl
theorem info_as : (Try.prog.info? 116).map (fun i => (i.zero, i.size, i.bytes)) = some (some (vAs as0), 4, 32) := by kernel_rfl
theorem info_in : (Try.prog.info? 37).map (fun i => (i.zero, i.size, i.bytes)) = some (some (vIn in0), 12, 96) := by kernel_rfl

/-! ### numbers -/
theorem within_any (n lo hi : Int) (w : World) : Calls Try.prog 82 #[.int .i64 n, .int .i64 lo, .int .i64 hi] w fun e w' => e = .returned (.bool (wi n lo hi)) ∧ w = w' := by
  by_cases h1 : lo ≤ n <;> by_cases h2 : n ≤ hi
  all_goals
    (have HR : Hid (wi n lo hi = (decide (lo ≤ n) && decide (n ≤ hi))) := rfl
     generalize wi n lo hi = R at *
     simp only [h1, h2, decide_true, decide_false, Bool.and_true, Bool.and_false] at HR
     go_enter Try.func82, Try.ntmps82
     go_wp2
     go_ret
     exact ⟨ret_b HR.out.symm, rfl⟩)
theorem rcur_any (n : Int) (w : World) : Calls Try.prog 91 #[.int .i64 n] w fun e w' => e = .returned (.bool (wi n 0 2)) ∧ w = w' := by
  have CW := fun w => rwithin_any n 0 2 w
  generalize wi n 0 2 = R at *
  go_enter Try.func91, Try.ntmps91
  go_wp2_with (go_at_call 34; ((with_reducible refine (CW _).mono ?_); rintro e w1 ⟨rfl, rfl⟩))
  go_ret
  exact ⟨rfl, rfl⟩

theorem memberNo_any (x : Mb) (w : World) : Calls Try.prog 59 #[vMb x] w fun e w' => e = .returned (.int .i64 (noMb x)) ∧ Grew w w' := by
  obtain ⟨q1, q2, q3⟩ := x
  unfold noMb
  dsimp only [vMb]
  go_enter Try.func59, Try.ntmps59
  go_wp2
  go_ret
  exact ⟨rfl, grew_alloc _ _ _⟩
theorem assetNo_any (x : As) (w : World) : Calls Try.prog 65 #[vAs x] w fun e w' => e = .returned (.int .i64 (noAs x)) ∧ Grew w w' := by
  obtain ⟨q1, q2, q3, q4⟩ := x
  unfold noAs
  dsimp only [vAs]
  go_enter Try.func65, Try.ntmps65
  go_wp2
  go_ret
  exact ⟨rfl, grew_alloc _ _ _⟩
theorem instNo_any (x : In) (w : World) : Calls Try.prog 62 #[vIn x] w fun e w' => e = .returned (.int .i64 (noIn x)) ∧ Grew w w' := by
  obtain ⟨⟨q1, q2, q3, q4, q5, q6⟩, ⟨q7, q8, q9, q10, q11, q12⟩⟩ := x
  unfold noIn
  dsimp only [vIn]
  go_enter Try.func62, Try.ntmps62
  go_wp2
  go_ret
  exact ⟨rfl, grew_alloc _ _ _⟩
end Go.Proofs.Ytlbfljkhlkjcbaa.NumK
namespace Go.Proofs.Ytlbfljkhlkjcbaa.NumK
open Go.RowKit


set_option maxRecDepth 100000 in
theorem rightMember_any (x : Mb) (w : World) : Calls Try.prog 60 #[vMb x] w fun e w' => e = .returned (.bool (okMb x)) ∧ Grew w w' := by
  obtain ⟨q1, q2, q3⟩ := x
  have HV : Hid (okMb (q1, q2, q3) = (wi q1 1 16 && wi q2 1 3 && wi q3 0 4611686018427387904)) := rfl
  have CW1 := fun w => within_any q1 1 16 w
  have CW2 := fun w => within_any q2 1 3 w
  have CW3 := fun w => within_any q3 0 4611686018427387904 w
  generalize okMb (q1, q2, q3) = V at *
  generalize wi q1 1 16 = R1 at *
  generalize wi q2 1 3 = R2 at *
  generalize wi q3 0 4611686018427387904 = R3 at *
  dsimp only [vMb]
  cases R1
  · have HF : Hid (V = false) := by show _ = _; rw [HV.out]; rfl
    clear HV
    go_enter Try.func60, Try.ntmps60; go_wp2_with (first | (go_at_call 82; ((with_reducible refine (CW1 _).mono ?_); rintro e w1 ⟨rfl, rfl⟩)) | (go_at_call 82; ((with_reducible refine (CW2 _).mono ?_); rintro e w1 ⟨rfl, rfl⟩)) | (go_at_call 82; ((with_reducible refine (CW3 _).mono ?_); rintro e w1 ⟨rfl, rfl⟩))); go_ret; exact ⟨ret_b HF.out.symm, grew_alloc _ _ _⟩
  ·
    cases R2
    · have HF : Hid (V = false) := by show _ = _; rw [HV.out]; rfl
      clear HV
      go_enter Try.func60, Try.ntmps60; go_wp2_with (first | (go_at_call 82; ((with_reducible refine (CW1 _).mono ?_); rintro e w1 ⟨rfl, rfl⟩)) | (go_at_call 82; ((with_reducible refine (CW2 _).mono ?_); rintro e w1 ⟨rfl, rfl⟩)) | (go_at_call 82; ((with_reducible refine (CW3 _).mono ?_); rintro e w1 ⟨rfl, rfl⟩))); go_ret; exact ⟨ret_b HF.out.symm, grew_alloc _ _ _⟩
    ·
      cases R3
      · have HF : Hid (V = false) := by show _ = _; rw [HV.out]; rfl
        clear HV
        go_enter Try.func60, Try.ntmps60; go_wp2_with (first | (go_at_call 82; ((with_reducible refine (CW1 _).mono ?_); rintro e w1 ⟨rfl, rfl⟩)) | (go_at_call 82; ((with_reducible refine (CW2 _).mono ?_); rintro e w1 ⟨rfl, rfl⟩)) | (go_at_call 82; ((with_reducible refine (CW3 _).mono ?_); rintro e w1 ⟨rfl, rfl⟩))); go_ret; exact ⟨ret_b HF.out.symm, grew_alloc _ _ _⟩
      · have HF : Hid (V = true) := by show _ = _; rw [HV.out]; rfl
        clear HV
        go_enter Try.func60, Try.ntmps60; go_wp2_with (first | (go_at_call 82; ((with_reducible refine (CW1 _).mono ?_); rintro e w1 ⟨rfl, rfl⟩)) | (go_at_call 82; ((with_reducible refine (CW2 _).mono ?_); rintro e w1 ⟨rfl, rfl⟩)) | (go_at_call 82; ((with_reducible refine (CW3 _).mono ?_); rintro e w1 ⟨rfl, rfl⟩))); go_ret; exact ⟨ret_b HF.out.symm, grew_alloc _ _ _⟩

set_option maxRecDepth 100000 in
theorem rmember_any (x : Mb) (w : World) : Calls Try.prog 72 #[vMb x] w fun e w' => e = .returned (.bool (okMb x)) ∧ Grew w w' := by
  obtain ⟨q1, q2, q3⟩ := x
  have HV : Hid (okMb (q1, q2, q3) = (wi q1 1 16 && wi q2 1 3 && wi q3 0 4611686018427387904)) := rfl
  have CW1 := fun w => rwho_any q1 w
  have CW2 := fun w => rwithin_any q2 1 3 w
  have CW3 := fun w => rwithin_any q3 0 4611686018427387904 w
  generalize okMb (q1, q2, q3) = V at *
  generalize wi q1 1 16 = R1 at *
  generalize wi q2 1 3 = R2 at *
  generalize wi q3 0 4611686018427387904 = R3 at *
  dsimp only [vMb]
  cases R1
  · have HF : Hid (V = false) := by show _ = _; rw [HV.out]; rfl
    clear HV
    go_enter Try.func72, Try.ntmps72; go_wp2_with (first | (go_at_call 90; ((with_reducible refine (CW1 _).mono ?_); rintro e w1 ⟨rfl, rfl⟩)) | (go_at_call 34; ((with_reducible refine (CW2 _).mono ?_); rintro e w1 ⟨rfl, rfl⟩)) | (go_at_call 34; ((with_reducible refine (CW3 _).mono ?_); rintro e w1 ⟨rfl, rfl⟩))); go_ret; exact ⟨ret_b HF.out.symm, grew_alloc _ _ _⟩
  ·
    cases R2
    · have HF : Hid (V = false) := by show _ = _; rw [HV.out]; rfl
      clear HV
      go_enter Try.func72, Try.ntmps72; go_wp2_with (first | (go_at_call 90; ((with_reducible refine (CW1 _).mono ?_); rintro e w1 ⟨rfl, rfl⟩)) | (go_at_call 34; ((with_reducible refine (CW2 _).mono ?_); rintro e w1 ⟨rfl, rfl⟩)) | (go_at_call 34; ((with_reducible refine (CW3 _).mono ?_); rintro e w1 ⟨rfl, rfl⟩))); go_ret; exact ⟨ret_b HF.out.symm, grew_alloc _ _ _⟩
    ·
      cases R3
      · have HF : Hid (V = false) := by show _ = _; rw [HV.out]; rfl
        clear HV
        go_enter Try.func72, Try.ntmps72; go_wp2_with (first | (go_at_call 90; ((with_reducible refine (CW1 _).mono ?_); rintro e w1 ⟨rfl, rfl⟩)) | (go_at_call 34; ((with_reducible refine (CW2 _).mono ?_); rintro e w1 ⟨rfl, rfl⟩)) | (go_at_call 34; ((with_reducible refine (CW3 _).mono ?_); rintro e w1 ⟨rfl, rfl⟩))); go_ret; exact ⟨ret_b HF.out.symm, grew_alloc _ _ _⟩
      · have HF : Hid (V = true) := by show _ = _; rw [HV.out]; rfl
        clear HV
        go_enter Try.func72, Try.ntmps72; go_wp2_with (first | (go_at_call 90; ((with_reducible refine (CW1 _).mono ?_); rintro e w1 ⟨rfl, rfl⟩)) | (go_at_call 34; ((with_reducible refine (CW2 _).mono ?_); rintro e w1 ⟨rfl, rfl⟩)) | (go_at_call 34; ((with_reducible refine (CW3 _).mono ?_); rintro e w1 ⟨rfl, rfl⟩))); go_ret; exact ⟨ret_b HF.out.symm, grew_alloc _ _ _⟩

set_option maxRecDepth 100000 in
theorem rightAsset_any (x : As) (w : World) : Calls Try.prog 66 #[vAs x] w fun e w' => e = .returned (.bool (okAs x)) ∧ Grew w w' := by
  obtain ⟨q1, q2, q3, q4⟩ := x
  have HV : Hid (okAs (q1, q2, q3, q4) = (wi q1 1 6 && wi q2 0 2 && wi q3 1 1073741824 && wi q4 0 10000)) := rfl
  have CW1 := fun w => within_any q1 1 6 w
  have CW2 := fun w => within_any q2 0 2 w
  have CW3 := fun w => within_any q3 1 1073741824 w
  have CW4 := fun w => within_any q4 0 10000 w
  generalize okAs (q1, q2, q3, q4) = V at *
  generalize wi q1 1 6 = R1 at *
  generalize wi q2 0 2 = R2 at *
  generalize wi q3 1 1073741824 = R3 at *
  generalize wi q4 0 10000 = R4 at *
  dsimp only [vAs]
  cases R1
  · have HF : Hid (V = false) := by show _ = _; rw [HV.out]; rfl
    clear HV
    go_enter Try.func66, Try.ntmps66; go_wp2_with (first | (go_at_call 82; ((with_reducible refine (CW1 _).mono ?_); rintro e w1 ⟨rfl, rfl⟩)) | (go_at_call 82; ((with_reducible refine (CW2 _).mono ?_); rintro e w1 ⟨rfl, rfl⟩)) | (go_at_call 82; ((with_reducible refine (CW3 _).mono ?_); rintro e w1 ⟨rfl, rfl⟩)) | (go_at_call 82; ((with_reducible refine (CW4 _).mono ?_); rintro e w1 ⟨rfl, rfl⟩))); go_ret; exact ⟨ret_b HF.out.symm, grew_alloc _ _ _⟩
  ·
    cases R2
    · have HF : Hid (V = false) := by show _ = _; rw [HV.out]; rfl
      clear HV
      go_enter Try.func66, Try.ntmps66; go_wp2_with (first | (go_at_call 82; ((with_reducible refine (CW1 _).mono ?_); rintro e w1 ⟨rfl, rfl⟩)) | (go_at_call 82; ((with_reducible refine (CW2 _).mono ?_); rintro e w1 ⟨rfl, rfl⟩)) | (go_at_call 82; ((with_reducible refine (CW3 _).mono ?_); rintro e w1 ⟨rfl, rfl⟩)) | (go_at_call 82; ((with_reducible refine (CW4 _).mono ?_); rintro e w1 ⟨rfl, rfl⟩))); go_ret; exact ⟨ret_b HF.out.symm, grew_alloc _ _ _⟩
    ·
      cases R3
      · have HF : Hid (V = false) := by show _ = _; rw [HV.out]; rfl
        clear HV
        go_enter Try.func66, Try.ntmps66; go_wp2_with (first | (go_at_call 82; ((with_reducible refine (CW1 _).mono ?_); rintro e w1 ⟨rfl, rfl⟩)) | (go_at_call 82; ((with_reducible refine (CW2 _).mono ?_); rintro e w1 ⟨rfl, rfl⟩)) | (go_at_call 82; ((with_reducible refine (CW3 _).mono ?_); rintro e w1 ⟨rfl, rfl⟩)) | (go_at_call 82; ((with_reducible refine (CW4 _).mono ?_); rintro e w1 ⟨rfl, rfl⟩))); go_ret; exact ⟨ret_b HF.out.symm, grew_alloc _ _ _⟩
      ·
        cases R4
        · have HF : Hid (V = false) := by show _ = _; rw [HV.out]; rfl
          clear HV
          go_enter Try.func66, Try.ntmps66; go_wp2_with (first | (go_at_call 82; ((with_reducible refine (CW1 _).mono ?_); rintro e w1 ⟨rfl, rfl⟩)) | (go_at_call 82; ((with_reducible refine (CW2 _).mono ?_); rintro e w1 ⟨rfl, rfl⟩)) | (go_at_call 82; ((with_reducible refine (CW3 _).mono ?_); rintro e w1 ⟨rfl, rfl⟩)) | (go_at_call 82; ((with_reducible refine (CW4 _).mono ?_); rintro e w1 ⟨rfl, rfl⟩))); go_ret; exact ⟨ret_b HF.out.symm, grew_alloc _ _ _⟩
        · have HF : Hid (V = true) := by show _ = _; rw [HV.out]; rfl
          clear HV
          go_enter Try.func66, Try.ntmps66; go_wp2_with (first | (go_at_call 82; ((with_reducible refine (CW1 _).mono ?_); rintro e w1 ⟨rfl, rfl⟩)) | (go_at_call 82; ((with_reducible refine (CW2 _).mono ?_); rintro e w1 ⟨rfl, rfl⟩)) | (go_at_call 82; ((with_reducible refine (CW3 _).mono ?_); rintro e w1 ⟨rfl, rfl⟩)) | (go_at_call 82; ((with_reducible refine (CW4 _).mono ?_); rintro e w1 ⟨rfl, rfl⟩))); go_ret; exact ⟨ret_b HF.out.symm, grew_alloc _ _ _⟩

set_option maxRecDepth 100000 in
theorem rasset_any (x : As) (w : World) : Calls Try.prog 74 #[vAs x] w fun e w' => e = .returned (.bool (okAs x)) ∧ Grew w w' := by
  obtain ⟨q1, q2, q3, q4⟩ := x
  have HV : Hid (okAs (q1, q2, q3, q4) = (wi q1 1 6 && wi q2 0 2 && wi q3 1 1073741824 && wi q4 0 10000)) := rfl
  have CW1 := fun w => rwithin_any q1 1 6 w
  have CW2 := fun w => rcur_any q2 w
  have CW3 := fun w => rwithin_any q3 1 1073741824 w
  have CW4 := fun w => rwithin_any q4 0 10000 w
  generalize okAs (q1, q2, q3, q4) = V at *
  generalize wi q1 1 6 = R1 at *
  generalize wi q2 0 2 = R2 at *
  generalize wi q3 1 1073741824 = R3 at *
  generalize wi q4 0 10000 = R4 at *
  dsimp only [vAs]
  cases R1
  · have HF : Hid (V = false) := by show _ = _; rw [HV.out]; rfl
    clear HV
    go_enter Try.func74, Try.ntmps74; go_wp2_with (first | (go_at_call 34; ((with_reducible refine (CW1 _).mono ?_); rintro e w1 ⟨rfl, rfl⟩)) | (go_at_call 91; ((with_reducible refine (CW2 _).mono ?_); rintro e w1 ⟨rfl, rfl⟩)) | (go_at_call 34; ((with_reducible refine (CW3 _).mono ?_); rintro e w1 ⟨rfl, rfl⟩)) | (go_at_call 34; ((with_reducible refine (CW4 _).mono ?_); rintro e w1 ⟨rfl, rfl⟩))); go_ret; exact ⟨ret_b HF.out.symm, grew_alloc _ _ _⟩
  ·
    cases R2
    · have HF : Hid (V = false) := by show _ = _; rw [HV.out]; rfl
      clear HV
      go_enter Try.func74, Try.ntmps74; go_wp2_with (first | (go_at_call 34; ((with_reducible refine (CW1 _).mono ?_); rintro e w1 ⟨rfl, rfl⟩)) | (go_at_call 91; ((with_reducible refine (CW2 _).mono ?_); rintro e w1 ⟨rfl, rfl⟩)) | (go_at_call 34; ((with_reducible refine (CW3 _).mono ?_); rintro e w1 ⟨rfl, rfl⟩)) | (go_at_call 34; ((with_reducible refine (CW4 _).mono ?_); rintro e w1 ⟨rfl, rfl⟩))); go_ret; exact ⟨ret_b HF.out.symm, grew_alloc _ _ _⟩
    ·
      cases R3
      · have HF : Hid (V = false) := by show _ = _; rw [HV.out]; rfl
        clear HV
        go_enter Try.func74, Try.ntmps74; go_wp2_with (first | (go_at_call 34; ((with_reducible refine (CW1 _).mono ?_); rintro e w1 ⟨rfl, rfl⟩)) | (go_at_call 91; ((with_reducible refine (CW2 _).mono ?_); rintro e w1 ⟨rfl, rfl⟩)) | (go_at_call 34; ((with_reducible refine (CW3 _).mono ?_); rintro e w1 ⟨rfl, rfl⟩)) | (go_at_call 34; ((with_reducible refine (CW4 _).mono ?_); rintro e w1 ⟨rfl, rfl⟩))); go_ret; exact ⟨ret_b HF.out.symm, grew_alloc _ _ _⟩
      ·
        cases R4
        · have HF : Hid (V = false) := by show _ = _; rw [HV.out]; rfl
          clear HV
          go_enter Try.func74, Try.ntmps74; go_wp2_with (first | (go_at_call 34; ((with_reducible refine (CW1 _).mono ?_); rintro e w1 ⟨rfl, rfl⟩)) | (go_at_call 91; ((with_reducible refine (CW2 _).mono ?_); rintro e w1 ⟨rfl, rfl⟩)) | (go_at_call 34; ((with_reducible refine (CW3 _).mono ?_); rintro e w1 ⟨rfl, rfl⟩)) | (go_at_call 34; ((with_reducible refine (CW4 _).mono ?_); rintro e w1 ⟨rfl, rfl⟩))); go_ret; exact ⟨ret_b HF.out.symm, grew_alloc _ _ _⟩
        · have HF : Hid (V = true) := by show _ = _; rw [HV.out]; rfl
          clear HV
          go_enter Try.func74, Try.ntmps74; go_wp2_with (first | (go_at_call 34; ((with_reducible refine (CW1 _).mono ?_); rintro e w1 ⟨rfl, rfl⟩)) | (go_at_call 91; ((with_reducible refine (CW2 _).mono ?_); rintro e w1 ⟨rfl, rfl⟩)) | (go_at_call 34; ((with_reducible refine (CW3 _).mono ?_); rintro e w1 ⟨rfl, rfl⟩)) | (go_at_call 34; ((with_reducible refine (CW4 _).mono ?_); rintro e w1 ⟨rfl, rfl⟩))); go_ret; exact ⟨ret_b HF.out.symm, grew_alloc _ _ _⟩

set_option maxRecDepth 100000 in
set_option maxHeartbeats 1000000 in
theorem rightInst_any (x : In) (w : World) : Calls Try.prog 63 #[vIn x] w fun e w' => e = .returned (.bool (okIn x)) ∧ Grew w w' := by
  obtain ⟨⟨q1, q2, q3, q4, q5, q6⟩, ⟨q7, q8, q9, q10, q11, q12⟩⟩ := x
  have HS : Hid (okIn ((q1, q2, q3, q4, q5, q6), (q7, q8, q9, q10, q11, q12)) = ((List.range 6).all (fun j => okSh (([q7, q8, q9, q10, q11, q12] : List Int).getD j 0)) && okIn6 ((q1, q2, q3, q4, q5, q6), (q7, q8, q9, q10, q11, q12)))) := by
    show _ = _
    rfl
  have HV : Hid (okIn6 ((q1, q2, q3, q4, q5, q6), (q7, q8, q9, q10, q11, q12)) = (wi q1 1 8 && wi q2 0 2 && wi q3 1 1024 && wi q4 0 1073741824 && wi q5 0 1073741824 && wi q6 0 1073741824)) := rfl
  have CW1 := fun w => within_any q1 1 8 w
  have CW2 := fun w => within_any q2 0 2 w
  have CW3 := fun w => within_any q3 1 1024 w
  have CW4 := fun w => within_any q4 0 1073741824 w
  have CW5 := fun w => within_any q5 0 1073741824 w
  have CW6 := fun w => within_any q6 0 1073741824 w
  generalize okIn ((q1, q2, q3, q4, q5, q6), (q7, q8, q9, q10, q11, q12)) = U at *
  generalize okIn6 ((q1, q2, q3, q4, q5, q6), (q7, q8, q9, q10, q11, q12)) = V at *
  generalize wi q1 1 8 = R1 at *
  generalize wi q2 0 2 = R2 at *
  generalize wi q3 1 1024 = R3 at *
  generalize wi q4 0 1073741824 = R4 at *
  generalize wi q5 0 1073741824 = R5 at *
  generalize wi q6 0 1073741824 = R6 at *
  dsimp only [vIn]
  have HG0 : Hid (Grew w (w.alloc (.cells #[.int .i64 q1, .int .i64 q2, .int .i64 q3, .int .i64 q4, .int .i64 q5, .int .i64 q6, .int .i64 q7, .int .i64 q8, .int .i64 q9, .int .i64 q10, .int .i64 q11, .int .i64 q12] 37))) := grew_alloc _ _ _
  go_enter Try.func63, Try.ntmps63
  go_wp2
  go_loopw [7] (fun v wr => ∃ j : Nat, v = .int .i64 j ∧ j ≤ 6 ∧ Hid ((List.range j).all (fun j => okSh (([q7, q8, q9, q10, q11, q12] : List Int).getD j 0)) = true) ∧ Hid (Grew (w.alloc (.cells #[.int .i64 q1, .int .i64 q2, .int .i64 q3, .int .i64 q4, .int .i64 q5, .int .i64 q6, .int .i64 q7, .int .i64 q8, .int .i64 q9, .int .i64 q10, .int .i64 q11, .int .i64 q12] 37)) wr)) (fun v _ => 6 - (intOf v).toNat)
  case atStart => exact ⟨0, rfl, by omega, rfl, grew_refl _⟩
  case round =>
    obtain ⟨j, rfl, hj, HM, HG1⟩ := hrel
    have HG := Lib.hid (grew_trans HG0.out HG1.out)
    have p0 : wr.cell? ⟨w.heap.size, 0, none⟩ = some (.int .i64 q1) := own_cell HG1.out 0
    have p1 : wr.cell? ⟨w.heap.size, 1, none⟩ = some (.int .i64 q2) := own_cell HG1.out 1
    have p2 : wr.cell? ⟨w.heap.size, 2, none⟩ = some (.int .i64 q3) := own_cell HG1.out 2
    have p3 : wr.cell? ⟨w.heap.size, 3, none⟩ = some (.int .i64 q4) := own_cell HG1.out 3
    have p4 : wr.cell? ⟨w.heap.size, 4, none⟩ = some (.int .i64 q5) := own_cell HG1.out 4
    have p5 : wr.cell? ⟨w.heap.size, 5, none⟩ = some (.int .i64 q6) := own_cell HG1.out 5
    have p6 : wr.cell? ⟨w.heap.size, 6, none⟩ = some (.int .i64 q7) := own_cell HG1.out 6
    have p7 : wr.cell? ⟨w.heap.size, 7, none⟩ = some (.int .i64 q8) := own_cell HG1.out 7
    have p8 : wr.cell? ⟨w.heap.size, 8, none⟩ = some (.int .i64 q9) := own_cell HG1.out 8
    have p9 : wr.cell? ⟨w.heap.size, 9, none⟩ = some (.int .i64 q10) := own_cell HG1.out 9
    have p10 : wr.cell? ⟨w.heap.size, 10, none⟩ = some (.int .i64 q11) := own_cell HG1.out 10
    have p11 : wr.cell? ⟨w.heap.size, 11, none⟩ = some (.int .i64 q12) := own_cell HG1.out 11
    by_cases hlt : j < 6
    · have HN := Lib.hid (range_all_no (fun j => okSh (([q7, q8, q9, q10, q11, q12] : List Int).getD j 0)) j 6 hlt)
      have HY := Lib.hid (range_all_succ (fun j => okSh (([q7, q8, q9, q10, q11, q12] : List Int).getD j 0)) j)
      have hj6 : j = 0 ∨ j = 1 ∨ j = 2 ∨ j = 3 ∨ j = 4 ∨ j = 5 := by omega
      clear hj hlt CW1 CW2 CW3 CW4 CW5 CW6 HV
      rcases hj6 with rfl | rfl | rfl | rfl | rfl | rfl
      · have CS := fun w => within_any q7 (-1073741824) 1073741824 w
        have HN2 : Hid (okSh q7 = false → false = U) := fun h => by rw [HS.out, ← HN.out h]; rfl
        have HY2 : Hid (okSh q7 = true → (List.range 1).all (fun j => okSh (([q7, q8, q9, q10, q11, q12] : List Int).getD j 0)) = true) := fun h => by rw [show 1 = 0 + 1 from rfl, HY.out, HM.out]; exact h
        rw [show wi q7 (-1073741824) 1073741824 = okSh q7 from rfl] at CS
        have ix : ∀ w, (Instr.index 35 (.agg #[.int .i64 q7, .int .i64 q8, .int .i64 q9, .int .i64 q10, .int .i64 q11, .int .i64 q12]) (.int .i64 0)).run Try.prog w = .ok (.int .i64 q7) w := fun _ => by kernel_rfl
        generalize okSh q7 = S at *
        clear HN HY HM
        cases S
        · have HF := Lib.hid (HN2.out rfl)
          clear HN2 HY2
          go_wp2_with (go_at_call 82; ((with_reducible refine (CS _).mono ?_); rintro e w1 ⟨rfl, rfl⟩))
          go_ret
          exact ⟨ret_b HF.out, HG.out⟩
        · have HM2 := Lib.hid (HY2.out rfl)
          clear HN2 HY2
          go_wp2_with (go_at_call 82; ((with_reducible refine (CS _).mono ?_); rintro e w1 ⟨rfl, rfl⟩))
          go_roundw
          case rel => exact ⟨1, by go_num, by omega, HM2.out, HG1.out⟩
          case measure => simp only [intOf]; omega
      · have CS := fun w => within_any q8 (-1073741824) 1073741824 w
        have HN2 : Hid (okSh q8 = false → false = U) := fun h => by rw [HS.out, ← HN.out h]; rfl
        have HY2 : Hid (okSh q8 = true → (List.range 2).all (fun j => okSh (([q7, q8, q9, q10, q11, q12] : List Int).getD j 0)) = true) := fun h => by rw [show 2 = 1 + 1 from rfl, HY.out, HM.out]; exact h
        rw [show wi q8 (-1073741824) 1073741824 = okSh q8 from rfl] at CS
        have ix : ∀ w, (Instr.index 35 (.agg #[.int .i64 q7, .int .i64 q8, .int .i64 q9, .int .i64 q10, .int .i64 q11, .int .i64 q12]) (.int .i64 1)).run Try.prog w = .ok (.int .i64 q8) w := fun _ => by kernel_rfl
        generalize okSh q8 = S at *
        clear HN HY HM
        cases S
        · have HF := Lib.hid (HN2.out rfl)
          clear HN2 HY2
          go_wp2_with (go_at_call 82; ((with_reducible refine (CS _).mono ?_); rintro e w1 ⟨rfl, rfl⟩))
          go_ret
          exact ⟨ret_b HF.out, HG.out⟩
        · have HM2 := Lib.hid (HY2.out rfl)
          clear HN2 HY2
          go_wp2_with (go_at_call 82; ((with_reducible refine (CS _).mono ?_); rintro e w1 ⟨rfl, rfl⟩))
          go_roundw
          case rel => exact ⟨2, by go_num, by omega, HM2.out, HG1.out⟩
          case measure => simp only [intOf]; omega
      · have CS := fun w => within_any q9 (-1073741824) 1073741824 w
        have HN2 : Hid (okSh q9 = false → false = U) := fun h => by rw [HS.out, ← HN.out h]; rfl
        have HY2 : Hid (okSh q9 = true → (List.range 3).all (fun j => okSh (([q7, q8, q9, q10, q11, q12] : List Int).getD j 0)) = true) := fun h => by rw [show 3 = 2 + 1 from rfl, HY.out, HM.out]; exact h
        rw [show wi q9 (-1073741824) 1073741824 = okSh q9 from rfl] at CS
        have ix : ∀ w, (Instr.index 35 (.agg #[.int .i64 q7, .int .i64 q8, .int .i64 q9, .int .i64 q10, .int .i64 q11, .int .i64 q12]) (.int .i64 2)).run Try.prog w = .ok (.int .i64 q9) w := fun _ => by kernel_rfl
        generalize okSh q9 = S at *
        clear HN HY HM
        cases S
        · have HF := Lib.hid (HN2.out rfl)
          clear HN2 HY2
          go_wp2_with (go_at_call 82; ((with_reducible refine (CS _).mono ?_); rintro e w1 ⟨rfl, rfl⟩))
          go_ret
          exact ⟨ret_b HF.out, HG.out⟩
        · have HM2 := Lib.hid (HY2.out rfl)
          clear HN2 HY2
          go_wp2_with (go_at_call 82; ((with_reducible refine (CS _).mono ?_); rintro e w1 ⟨rfl, rfl⟩))
          go_roundw
          case rel => exact ⟨3, by go_num, by omega, HM2.out, HG1.out⟩
          case measure => simp only [intOf]; omega
      · have CS := fun w => within_any q10 (-1073741824) 1073741824 w
        have HN2 : Hid (okSh q10 = false → false = U) := fun h => by rw [HS.out, ← HN.out h]; rfl
        have HY2 : Hid (okSh q10 = true → (List.range 4).all (fun j => okSh (([q7, q8, q9, q10, q11, q12] : List Int).getD j 0)) = true) := fun h => by rw [show 4 = 3 + 1 from rfl, HY.out, HM.out]; exact h
        rw [show wi q10 (-1073741824) 1073741824 = okSh q10 from rfl] at CS
        have ix : ∀ w, (Instr.index 35 (.agg #[.int .i64 q7, .int .i64 q8, .int .i64 q9, .int .i64 q10, .int .i64 q11, .int .i64 q12]) (.int .i64 3)).run Try.prog w = .ok (.int .i64 q10) w := fun _ => by kernel_rfl
        generalize okSh q10 = S at *
        clear HN HY HM
        cases S
        · have HF := Lib.hid (HN2.out rfl)
          clear HN2 HY2
          go_wp2_with (go_at_call 82; ((with_reducible refine (CS _).mono ?_); rintro e w1 ⟨rfl, rfl⟩))
          go_ret
          exact ⟨ret_b HF.out, HG.out⟩
        · have HM2 := Lib.hid (HY2.out rfl)
          clear HN2 HY2
          go_wp2_with (go_at_call 82; ((with_reducible refine (CS _).mono ?_); rintro e w1 ⟨rfl, rfl⟩))
          go_roundw
          case rel => exact ⟨4, by go_num, by omega, HM2.out, HG1.out⟩
          case measure => simp only [intOf]; omega
      · have CS := fun w => within_any q11 (-1073741824) 1073741824 w
        have HN2 : Hid (okSh q11 = false → false = U) := fun h => by rw [HS.out, ← HN.out h]; rfl
        have HY2 : Hid (okSh q11 = true → (List.range 5).all (fun j => okSh (([q7, q8, q9, q10, q11, q12] : List Int).getD j 0)) = true) := fun h => by rw [show 5 = 4 + 1 from rfl, HY.out, HM.out]; exact h
        rw [show wi q11 (-1073741824) 1073741824 = okSh q11 from rfl] at CS
        have ix : ∀ w, (Instr.index 35 (.agg #[.int .i64 q7, .int .i64 q8, .int .i64 q9, .int .i64 q10, .int .i64 q11, .int .i64 q12]) (.int .i64 4)).run Try.prog w = .ok (.int .i64 q11) w := fun _ => by kernel_rfl
        generalize okSh q11 = S at *
        clear HN HY HM
        cases S
        · have HF := Lib.hid (HN2.out rfl)
          clear HN2 HY2
          go_wp2_with (go_at_call 82; ((with_reducible refine (CS _).mono ?_); rintro e w1 ⟨rfl, rfl⟩))
          go_ret
          exact ⟨ret_b HF.out, HG.out⟩
        · have HM2 := Lib.hid (HY2.out rfl)
          clear HN2 HY2
          go_wp2_with (go_at_call 82; ((with_reducible refine (CS _).mono ?_); rintro e w1 ⟨rfl, rfl⟩))
          go_roundw
          case rel => exact ⟨5, by go_num, by omega, HM2.out, HG1.out⟩
          case measure => simp only [intOf]; omega
      · have CS := fun w => within_any q12 (-1073741824) 1073741824 w
        have HN2 : Hid (okSh q12 = false → false = U) := fun h => by rw [HS.out, ← HN.out h]; rfl
        have HY2 : Hid (okSh q12 = true → (List.range 6).all (fun j => okSh (([q7, q8, q9, q10, q11, q12] : List Int).getD j 0)) = true) := fun h => by rw [show 6 = 5 + 1 from rfl, HY.out, HM.out]; exact h
        rw [show wi q12 (-1073741824) 1073741824 = okSh q12 from rfl] at CS
        have ix : ∀ w, (Instr.index 35 (.agg #[.int .i64 q7, .int .i64 q8, .int .i64 q9, .int .i64 q10, .int .i64 q11, .int .i64 q12]) (.int .i64 5)).run Try.prog w = .ok (.int .i64 q12) w := fun _ => by kernel_rfl
        generalize okSh q12 = S at *
        clear HN HY HM
        cases S
        · have HF := Lib.hid (HN2.out rfl)
          clear HN2 HY2
          go_wp2_with (go_at_call 82; ((with_reducible refine (CS _).mono ?_); rintro e w1 ⟨rfl, rfl⟩))
          go_ret
          exact ⟨ret_b HF.out, HG.out⟩
        · have HM2 := Lib.hid (HY2.out rfl)
          clear HN2 HY2
          go_wp2_with (go_at_call 82; ((with_reducible refine (CS _).mono ?_); rintro e w1 ⟨rfl, rfl⟩))
          go_roundw
          case rel => exact ⟨6, by go_num, by omega, HM2.out, HG1.out⟩
          case measure => simp only [intOf]; omega
    · obtain rfl : j = 6 := by omega
      have HU : Hid (U = V) := by show _ = _; rw [HS.out, HM.out]; rfl
      clear HS HM hj hlt
      cases R1
      · have HF : Hid (V = false) := by show _ = _; rw [HV.out]; rfl
        clear HV
        go_wp2_with (first | (go_at_call 82; ((with_reducible refine (CW1 _).mono ?_); rintro e w1 ⟨rfl, rfl⟩)) | (go_at_call 82; ((with_reducible refine (CW2 _).mono ?_); rintro e w1 ⟨rfl, rfl⟩)) | (go_at_call 82; ((with_reducible refine (CW3 _).mono ?_); rintro e w1 ⟨rfl, rfl⟩)) | (go_at_call 82; ((with_reducible refine (CW4 _).mono ?_); rintro e w1 ⟨rfl, rfl⟩)) | (go_at_call 82; ((with_reducible refine (CW5 _).mono ?_); rintro e w1 ⟨rfl, rfl⟩)) | (go_at_call 82; ((with_reducible refine (CW6 _).mono ?_); rintro e w1 ⟨rfl, rfl⟩))); go_ret; exact ⟨ret_b (HU.out.trans HF.out).symm, HG.out⟩
      ·
        cases R2
        · have HF : Hid (V = false) := by show _ = _; rw [HV.out]; rfl
          clear HV
          go_wp2_with (first | (go_at_call 82; ((with_reducible refine (CW1 _).mono ?_); rintro e w1 ⟨rfl, rfl⟩)) | (go_at_call 82; ((with_reducible refine (CW2 _).mono ?_); rintro e w1 ⟨rfl, rfl⟩)) | (go_at_call 82; ((with_reducible refine (CW3 _).mono ?_); rintro e w1 ⟨rfl, rfl⟩)) | (go_at_call 82; ((with_reducible refine (CW4 _).mono ?_); rintro e w1 ⟨rfl, rfl⟩)) | (go_at_call 82; ((with_reducible refine (CW5 _).mono ?_); rintro e w1 ⟨rfl, rfl⟩)) | (go_at_call 82; ((with_reducible refine (CW6 _).mono ?_); rintro e w1 ⟨rfl, rfl⟩))); go_ret; exact ⟨ret_b (HU.out.trans HF.out).symm, HG.out⟩
        ·
          cases R3
          · have HF : Hid (V = false) := by show _ = _; rw [HV.out]; rfl
            clear HV
            go_wp2_with (first | (go_at_call 82; ((with_reducible refine (CW1 _).mono ?_); rintro e w1 ⟨rfl, rfl⟩)) | (go_at_call 82; ((with_reducible refine (CW2 _).mono ?_); rintro e w1 ⟨rfl, rfl⟩)) | (go_at_call 82; ((with_reducible refine (CW3 _).mono ?_); rintro e w1 ⟨rfl, rfl⟩)) | (go_at_call 82; ((with_reducible refine (CW4 _).mono ?_); rintro e w1 ⟨rfl, rfl⟩)) | (go_at_call 82; ((with_reducible refine (CW5 _).mono ?_); rintro e w1 ⟨rfl, rfl⟩)) | (go_at_call 82; ((with_reducible refine (CW6 _).mono ?_); rintro e w1 ⟨rfl, rfl⟩))); go_ret; exact ⟨ret_b (HU.out.trans HF.out).symm, HG.out⟩
          ·
            cases R4
            · have HF : Hid (V = false) := by show _ = _; rw [HV.out]; rfl
              clear HV
              go_wp2_with (first | (go_at_call 82; ((with_reducible refine (CW1 _).mono ?_); rintro e w1 ⟨rfl, rfl⟩)) | (go_at_call 82; ((with_reducible refine (CW2 _).mono ?_); rintro e w1 ⟨rfl, rfl⟩)) | (go_at_call 82; ((with_reducible refine (CW3 _).mono ?_); rintro e w1 ⟨rfl, rfl⟩)) | (go_at_call 82; ((with_reducible refine (CW4 _).mono ?_); rintro e w1 ⟨rfl, rfl⟩)) | (go_at_call 82; ((with_reducible refine (CW5 _).mono ?_); rintro e w1 ⟨rfl, rfl⟩)) | (go_at_call 82; ((with_reducible refine (CW6 _).mono ?_); rintro e w1 ⟨rfl, rfl⟩))); go_ret; exact ⟨ret_b (HU.out.trans HF.out).symm, HG.out⟩
            ·
              cases R5
              · have HF : Hid (V = false) := by show _ = _; rw [HV.out]; rfl
                clear HV
                go_wp2_with (first | (go_at_call 82; ((with_reducible refine (CW1 _).mono ?_); rintro e w1 ⟨rfl, rfl⟩)) | (go_at_call 82; ((with_reducible refine (CW2 _).mono ?_); rintro e w1 ⟨rfl, rfl⟩)) | (go_at_call 82; ((with_reducible refine (CW3 _).mono ?_); rintro e w1 ⟨rfl, rfl⟩)) | (go_at_call 82; ((with_reducible refine (CW4 _).mono ?_); rintro e w1 ⟨rfl, rfl⟩)) | (go_at_call 82; ((with_reducible refine (CW5 _).mono ?_); rintro e w1 ⟨rfl, rfl⟩)) | (go_at_call 82; ((with_reducible refine (CW6 _).mono ?_); rintro e w1 ⟨rfl, rfl⟩))); go_ret; exact ⟨ret_b (HU.out.trans HF.out).symm, HG.out⟩
              ·
                cases R6
                · have HF : Hid (V = false) := by show _ = _; rw [HV.out]; rfl
                  clear HV
                  go_wp2_with (first | (go_at_call 82; ((with_reducible refine (CW1 _).mono ?_); rintro e w1 ⟨rfl, rfl⟩)) | (go_at_call 82; ((with_reducible refine (CW2 _).mono ?_); rintro e w1 ⟨rfl, rfl⟩)) | (go_at_call 82; ((with_reducible refine (CW3 _).mono ?_); rintro e w1 ⟨rfl, rfl⟩)) | (go_at_call 82; ((with_reducible refine (CW4 _).mono ?_); rintro e w1 ⟨rfl, rfl⟩)) | (go_at_call 82; ((with_reducible refine (CW5 _).mono ?_); rintro e w1 ⟨rfl, rfl⟩)) | (go_at_call 82; ((with_reducible refine (CW6 _).mono ?_); rintro e w1 ⟨rfl, rfl⟩))); go_ret; exact ⟨ret_b (HU.out.trans HF.out).symm, HG.out⟩
                · have HF : Hid (V = true) := by show _ = _; rw [HV.out]; rfl
                  clear HV
                  go_wp2_with (first | (go_at_call 82; ((with_reducible refine (CW1 _).mono ?_); rintro e w1 ⟨rfl, rfl⟩)) | (go_at_call 82; ((with_reducible refine (CW2 _).mono ?_); rintro e w1 ⟨rfl, rfl⟩)) | (go_at_call 82; ((with_reducible refine (CW3 _).mono ?_); rintro e w1 ⟨rfl, rfl⟩)) | (go_at_call 82; ((with_reducible refine (CW4 _).mono ?_); rintro e w1 ⟨rfl, rfl⟩)) | (go_at_call 82; ((with_reducible refine (CW5 _).mono ?_); rintro e w1 ⟨rfl, rfl⟩)) | (go_at_call 82; ((with_reducible refine (CW6 _).mono ?_); rintro e w1 ⟨rfl, rfl⟩))); go_ret; exact ⟨ret_b (HU.out.trans HF.out).symm, HG.out⟩

set_option maxRecDepth 100000 in
set_option maxHeartbeats 1000000 in
theorem rinst_any (x : In) (w : World) : Calls Try.prog 73 #[vIn x] w fun e w' => e = .returned (.bool (okIn x)) ∧ Grew w w' := by
  obtain ⟨⟨q1, q2, q3, q4, q5, q6⟩, ⟨q7, q8, q9, q10, q11, q12⟩⟩ := x
  have HS : Hid (okIn ((q1, q2, q3, q4, q5, q6), (q7, q8, q9, q10, q11, q12)) = ((List.range 6).all (fun j => okSh (([q7, q8, q9, q10, q11, q12] : List Int).getD j 0)) && okIn6 ((q1, q2, q3, q4, q5, q6), (q7, q8, q9, q10, q11, q12)))) := by
    show _ = _
    rfl
  have HV : Hid (okIn6 ((q1, q2, q3, q4, q5, q6), (q7, q8, q9, q10, q11, q12)) = (wi q1 1 8 && wi q2 0 2 && wi q3 1 1024 && wi q4 0 1073741824 && wi q5 0 1073741824 && wi q6 0 1073741824)) := rfl
  have CW1 := fun w => rwithin_any q1 1 8 w
  have CW2 := fun w => rcur_any q2 w
  have CW3 := fun w => rwithin_any q3 1 1024 w
  have CW4 := fun w => rwithin_any q4 0 1073741824 w
  have CW5 := fun w => rwithin_any q5 0 1073741824 w
  have CW6 := fun w => rwithin_any q6 0 1073741824 w
  generalize okIn ((q1, q2, q3, q4, q5, q6), (q7, q8, q9, q10, q11, q12)) = U at *
  generalize okIn6 ((q1, q2, q3, q4, q5, q6), (q7, q8, q9, q10, q11, q12)) = V at *
  generalize wi q1 1 8 = R1 at *
  generalize wi q2 0 2 = R2 at *
  generalize wi q3 1 1024 = R3 at *
  generalize wi q4 0 1073741824 = R4 at *
  generalize wi q5 0 1073741824 = R5 at *
  generalize wi q6 0 1073741824 = R6 at *
  dsimp only [vIn]
  have HG0 : Hid (Grew w (w.alloc (.cells #[.int .i64 q1, .int .i64 q2, .int .i64 q3, .int .i64 q4, .int .i64 q5, .int .i64 q6, .int .i64 q7, .int .i64 q8, .int .i64 q9, .int .i64 q10, .int .i64 q11, .int .i64 q12] 37))) := grew_alloc _ _ _
  go_enter Try.func73, Try.ntmps73
  go_wp2
  go_loopw [3] (fun v wr => ∃ j : Nat, v = .int .i64 j ∧ j ≤ 6 ∧ Hid ((List.range j).all (fun j => okSh (([q7, q8, q9, q10, q11, q12] : List Int).getD j 0)) = true) ∧ Hid (Grew (w.alloc (.cells #[.int .i64 q1, .int .i64 q2, .int .i64 q3, .int .i64 q4, .int .i64 q5, .int .i64 q6, .int .i64 q7, .int .i64 q8, .int .i64 q9, .int .i64 q10, .int .i64 q11, .int .i64 q12] 37)) wr)) (fun v _ => 6 - (intOf v).toNat)
  case atStart => exact ⟨0, rfl, by omega, rfl, grew_refl _⟩
  case round =>
    obtain ⟨j, rfl, hj, HM, HG1⟩ := hrel
    have HG := Lib.hid (grew_trans HG0.out HG1.out)
    have p0 : wr.cell? ⟨w.heap.size, 0, none⟩ = some (.int .i64 q1) := own_cell HG1.out 0
    have p1 : wr.cell? ⟨w.heap.size, 1, none⟩ = some (.int .i64 q2) := own_cell HG1.out 1
    have p2 : wr.cell? ⟨w.heap.size, 2, none⟩ = some (.int .i64 q3) := own_cell HG1.out 2
    have p3 : wr.cell? ⟨w.heap.size, 3, none⟩ = some (.int .i64 q4) := own_cell HG1.out 3
    have p4 : wr.cell? ⟨w.heap.size, 4, none⟩ = some (.int .i64 q5) := own_cell HG1.out 4
    have p5 : wr.cell? ⟨w.heap.size, 5, none⟩ = some (.int .i64 q6) := own_cell HG1.out 5
    have p6 : wr.cell? ⟨w.heap.size, 6, none⟩ = some (.int .i64 q7) := own_cell HG1.out 6
    have p7 : wr.cell? ⟨w.heap.size, 7, none⟩ = some (.int .i64 q8) := own_cell HG1.out 7
    have p8 : wr.cell? ⟨w.heap.size, 8, none⟩ = some (.int .i64 q9) := own_cell HG1.out 8
    have p9 : wr.cell? ⟨w.heap.size, 9, none⟩ = some (.int .i64 q10) := own_cell HG1.out 9
    have p10 : wr.cell? ⟨w.heap.size, 10, none⟩ = some (.int .i64 q11) := own_cell HG1.out 10
    have p11 : wr.cell? ⟨w.heap.size, 11, none⟩ = some (.int .i64 q12) := own_cell HG1.out 11
    by_cases hlt : j < 6
    · have HN := Lib.hid (range_all_no (fun j => okSh (([q7, q8, q9, q10, q11, q12] : List Int).getD j 0)) j 6 hlt)
      have HY := Lib.hid (range_all_succ (fun j => okSh (([q7, q8, q9, q10, q11, q12] : List Int).getD j 0)) j)
      have hj6 : j = 0 ∨ j = 1 ∨ j = 2 ∨ j = 3 ∨ j = 4 ∨ j = 5 := by omega
      clear hj hlt CW1 CW2 CW3 CW4 CW5 CW6 HV
      rcases hj6 with rfl | rfl | rfl | rfl | rfl | rfl
      · have CS := fun w => rwithin_any q7 (-1073741824) 1073741824 w
        have HN2 : Hid (okSh q7 = false → false = U) := fun h => by rw [HS.out, ← HN.out h]; rfl
        have HY2 : Hid (okSh q7 = true → (List.range 1).all (fun j => okSh (([q7, q8, q9, q10, q11, q12] : List Int).getD j 0)) = true) := fun h => by rw [show 1 = 0 + 1 from rfl, HY.out, HM.out]; exact h
        rw [show wi q7 (-1073741824) 1073741824 = okSh q7 from rfl] at CS
        skip
        generalize okSh q7 = S at *
        clear HN HY HM
        cases S
        · have HF := Lib.hid (HN2.out rfl)
          clear HN2 HY2
          go_wp2_with (go_at_call 34; ((with_reducible refine (CS _).mono ?_); rintro e w1 ⟨rfl, rfl⟩))
          go_ret
          exact ⟨ret_b HF.out, HG.out⟩
        · have HM2 := Lib.hid (HY2.out rfl)
          clear HN2 HY2
          go_wp2_with (go_at_call 34; ((with_reducible refine (CS _).mono ?_); rintro e w1 ⟨rfl, rfl⟩))
          go_roundw
          case rel => exact ⟨1, by go_num, by omega, HM2.out, HG1.out⟩
          case measure => simp only [intOf]; omega
      · have CS := fun w => rwithin_any q8 (-1073741824) 1073741824 w
        have HN2 : Hid (okSh q8 = false → false = U) := fun h => by rw [HS.out, ← HN.out h]; rfl
        have HY2 : Hid (okSh q8 = true → (List.range 2).all (fun j => okSh (([q7, q8, q9, q10, q11, q12] : List Int).getD j 0)) = true) := fun h => by rw [show 2 = 1 + 1 from rfl, HY.out, HM.out]; exact h
        rw [show wi q8 (-1073741824) 1073741824 = okSh q8 from rfl] at CS
        skip
        generalize okSh q8 = S at *
        clear HN HY HM
        cases S
        · have HF := Lib.hid (HN2.out rfl)
          clear HN2 HY2
          go_wp2_with (go_at_call 34; ((with_reducible refine (CS _).mono ?_); rintro e w1 ⟨rfl, rfl⟩))
          go_ret
          exact ⟨ret_b HF.out, HG.out⟩
        · have HM2 := Lib.hid (HY2.out rfl)
          clear HN2 HY2
          go_wp2_with (go_at_call 34; ((with_reducible refine (CS _).mono ?_); rintro e w1 ⟨rfl, rfl⟩))
          go_roundw
          case rel => exact ⟨2, by go_num, by omega, HM2.out, HG1.out⟩
          case measure => simp only [intOf]; omega
      · have CS := fun w => rwithin_any q9 (-1073741824) 1073741824 w
        have HN2 : Hid (okSh q9 = false → false = U) := fun h => by rw [HS.out, ← HN.out h]; rfl
        have HY2 : Hid (okSh q9 = true → (List.range 3).all (fun j => okSh (([q7, q8, q9, q10, q11, q12] : List Int).getD j 0)) = true) := fun h => by rw [show 3 = 2 + 1 from rfl, HY.out, HM.out]; exact h
        rw [show wi q9 (-1073741824) 1073741824 = okSh q9 from rfl] at CS
        skip
        generalize okSh q9 = S at *
        clear HN HY HM
        cases S
        · have HF := Lib.hid (HN2.out rfl)
          clear HN2 HY2
          go_wp2_with (go_at_call 34; ((with_reducible refine (CS _).mono ?_); rintro e w1 ⟨rfl, rfl⟩))
          go_ret
          exact ⟨ret_b HF.out, HG.out⟩
        · have HM2 := Lib.hid (HY2.out rfl)
          clear HN2 HY2
          go_wp2_with (go_at_call 34; ((with_reducible refine (CS _).mono ?_); rintro e w1 ⟨rfl, rfl⟩))
          go_roundw
          case rel => exact ⟨3, by go_num, by omega, HM2.out, HG1.out⟩
          case measure => simp only [intOf]; omega
      · have CS := fun w => rwithin_any q10 (-1073741824) 1073741824 w
        have HN2 : Hid (okSh q10 = false → false = U) := fun h => by rw [HS.out, ← HN.out h]; rfl
        have HY2 : Hid (okSh q10 = true → (List.range 4).all (fun j => okSh (([q7, q8, q9, q10, q11, q12] : List Int).getD j 0)) = true) := fun h => by rw [show 4 = 3 + 1 from rfl, HY.out, HM.out]; exact h
        rw [show wi q10 (-1073741824) 1073741824 = okSh q10 from rfl] at CS
        skip
        generalize okSh q10 = S at *
        clear HN HY HM
        cases S
        · have HF := Lib.hid (HN2.out rfl)
          clear HN2 HY2
          go_wp2_with (go_at_call 34; ((with_reducible refine (CS _).mono ?_); rintro e w1 ⟨rfl, rfl⟩))
          go_ret
          exact ⟨ret_b HF.out, HG.out⟩
        · have HM2 := Lib.hid (HY2.out rfl)
          clear HN2 HY2
          go_wp2_with (go_at_call 34; ((with_reducible refine (CS _).mono ?_); rintro e w1 ⟨rfl, rfl⟩))
          go_roundw
          case rel => exact ⟨4, by go_num, by omega, HM2.out, HG1.out⟩
          case measure => simp only [intOf]; omega
      · have CS := fun w => rwithin_any q11 (-1073741824) 1073741824 w
        have HN2 : Hid (okSh q11 = false → false = U) := fun h => by rw [HS.out, ← HN.out h]; rfl
        have HY2 : Hid (okSh q11 = true → (List.range 5).all (fun j => okSh (([q7, q8, q9, q10, q11, q12] : List Int).getD j 0)) = true) := fun h => by rw [show 5 = 4 + 1 from rfl, HY.out, HM.out]; exact h
        rw [show wi q11 (-1073741824) 1073741824 = okSh q11 from rfl] at CS
        skip
        generalize okSh q11 = S at *
        clear HN HY HM
        cases S
        · have HF := Lib.hid (HN2.out rfl)
          clear HN2 HY2
          go_wp2_with (go_at_call 34; ((with_reducible refine (CS _).mono ?_); rintro e w1 ⟨rfl, rfl⟩))
          go_ret
          exact ⟨ret_b HF.out, HG.out⟩
        · have HM2 := Lib.hid (HY2.out rfl)
          clear HN2 HY2
          go_wp2_with (go_at_call 34; ((with_reducible refine (CS _).mono ?_); rintro e w1 ⟨rfl, rfl⟩))
          go_roundw
          case rel => exact ⟨5, by go_num, by omega, HM2.out, HG1.out⟩
          case measure => simp only [intOf]; omega
      · have CS := fun w => rwithin_any q12 (-1073741824) 1073741824 w
        have HN2 : Hid (okSh q12 = false → false = U) := fun h => by rw [HS.out, ← HN.out h]; rfl
        have HY2 : Hid (okSh q12 = true → (List.range 6).all (fun j => okSh (([q7, q8, q9, q10, q11, q12] : List Int).getD j 0)) = true) := fun h => by rw [show 6 = 5 + 1 from rfl, HY.out, HM.out]; exact h
        rw [show wi q12 (-1073741824) 1073741824 = okSh q12 from rfl] at CS
        skip
        generalize okSh q12 = S at *
        clear HN HY HM
        cases S
        · have HF := Lib.hid (HN2.out rfl)
          clear HN2 HY2
          go_wp2_with (go_at_call 34; ((with_reducible refine (CS _).mono ?_); rintro e w1 ⟨rfl, rfl⟩))
          go_ret
          exact ⟨ret_b HF.out, HG.out⟩
        · have HM2 := Lib.hid (HY2.out rfl)
          clear HN2 HY2
          go_wp2_with (go_at_call 34; ((with_reducible refine (CS _).mono ?_); rintro e w1 ⟨rfl, rfl⟩))
          go_roundw
          case rel => exact ⟨6, by go_num, by omega, HM2.out, HG1.out⟩
          case measure => simp only [intOf]; omega
    · obtain rfl : j = 6 := by omega
      have HU : Hid (U = V) := by show _ = _; rw [HS.out, HM.out]; rfl
      clear HS HM hj hlt
      cases R1
      · have HF : Hid (V = false) := by show _ = _; rw [HV.out]; rfl
        clear HV
        go_wp2_with (first | (go_at_call 34; ((with_reducible refine (CW1 _).mono ?_); rintro e w1 ⟨rfl, rfl⟩)) | (go_at_call 91; ((with_reducible refine (CW2 _).mono ?_); rintro e w1 ⟨rfl, rfl⟩)) | (go_at_call 34; ((with_reducible refine (CW3 _).mono ?_); rintro e w1 ⟨rfl, rfl⟩)) | (go_at_call 34; ((with_reducible refine (CW4 _).mono ?_); rintro e w1 ⟨rfl, rfl⟩)) | (go_at_call 34; ((with_reducible refine (CW5 _).mono ?_); rintro e w1 ⟨rfl, rfl⟩)) | (go_at_call 34; ((with_reducible refine (CW6 _).mono ?_); rintro e w1 ⟨rfl, rfl⟩))); go_ret; exact ⟨ret_b (HU.out.trans HF.out).symm, HG.out⟩
      ·
        cases R2
        · have HF : Hid (V = false) := by show _ = _; rw [HV.out]; rfl
          clear HV
          go_wp2_with (first | (go_at_call 34; ((with_reducible refine (CW1 _).mono ?_); rintro e w1 ⟨rfl, rfl⟩)) | (go_at_call 91; ((with_reducible refine (CW2 _).mono ?_); rintro e w1 ⟨rfl, rfl⟩)) | (go_at_call 34; ((with_reducible refine (CW3 _).mono ?_); rintro e w1 ⟨rfl, rfl⟩)) | (go_at_call 34; ((with_reducible refine (CW4 _).mono ?_); rintro e w1 ⟨rfl, rfl⟩)) | (go_at_call 34; ((with_reducible refine (CW5 _).mono ?_); rintro e w1 ⟨rfl, rfl⟩)) | (go_at_call 34; ((with_reducible refine (CW6 _).mono ?_); rintro e w1 ⟨rfl, rfl⟩))); go_ret; exact ⟨ret_b (HU.out.trans HF.out).symm, HG.out⟩
        ·
          cases R3
          · have HF : Hid (V = false) := by show _ = _; rw [HV.out]; rfl
            clear HV
            go_wp2_with (first | (go_at_call 34; ((with_reducible refine (CW1 _).mono ?_); rintro e w1 ⟨rfl, rfl⟩)) | (go_at_call 91; ((with_reducible refine (CW2 _).mono ?_); rintro e w1 ⟨rfl, rfl⟩)) | (go_at_call 34; ((with_reducible refine (CW3 _).mono ?_); rintro e w1 ⟨rfl, rfl⟩)) | (go_at_call 34; ((with_reducible refine (CW4 _).mono ?_); rintro e w1 ⟨rfl, rfl⟩)) | (go_at_call 34; ((with_reducible refine (CW5 _).mono ?_); rintro e w1 ⟨rfl, rfl⟩)) | (go_at_call 34; ((with_reducible refine (CW6 _).mono ?_); rintro e w1 ⟨rfl, rfl⟩))); go_ret; exact ⟨ret_b (HU.out.trans HF.out).symm, HG.out⟩
          ·
            cases R4
            · have HF : Hid (V = false) := by show _ = _; rw [HV.out]; rfl
              clear HV
              go_wp2_with (first | (go_at_call 34; ((with_reducible refine (CW1 _).mono ?_); rintro e w1 ⟨rfl, rfl⟩)) | (go_at_call 91; ((with_reducible refine (CW2 _).mono ?_); rintro e w1 ⟨rfl, rfl⟩)) | (go_at_call 34; ((with_reducible refine (CW3 _).mono ?_); rintro e w1 ⟨rfl, rfl⟩)) | (go_at_call 34; ((with_reducible refine (CW4 _).mono ?_); rintro e w1 ⟨rfl, rfl⟩)) | (go_at_call 34; ((with_reducible refine (CW5 _).mono ?_); rintro e w1 ⟨rfl, rfl⟩)) | (go_at_call 34; ((with_reducible refine (CW6 _).mono ?_); rintro e w1 ⟨rfl, rfl⟩))); go_ret; exact ⟨ret_b (HU.out.trans HF.out).symm, HG.out⟩
            ·
              cases R5
              · have HF : Hid (V = false) := by show _ = _; rw [HV.out]; rfl
                clear HV
                go_wp2_with (first | (go_at_call 34; ((with_reducible refine (CW1 _).mono ?_); rintro e w1 ⟨rfl, rfl⟩)) | (go_at_call 91; ((with_reducible refine (CW2 _).mono ?_); rintro e w1 ⟨rfl, rfl⟩)) | (go_at_call 34; ((with_reducible refine (CW3 _).mono ?_); rintro e w1 ⟨rfl, rfl⟩)) | (go_at_call 34; ((with_reducible refine (CW4 _).mono ?_); rintro e w1 ⟨rfl, rfl⟩)) | (go_at_call 34; ((with_reducible refine (CW5 _).mono ?_); rintro e w1 ⟨rfl, rfl⟩)) | (go_at_call 34; ((with_reducible refine (CW6 _).mono ?_); rintro e w1 ⟨rfl, rfl⟩))); go_ret; exact ⟨ret_b (HU.out.trans HF.out).symm, HG.out⟩
              ·
                cases R6
                · have HF : Hid (V = false) := by show _ = _; rw [HV.out]; rfl
                  clear HV
                  go_wp2_with (first | (go_at_call 34; ((with_reducible refine (CW1 _).mono ?_); rintro e w1 ⟨rfl, rfl⟩)) | (go_at_call 91; ((with_reducible refine (CW2 _).mono ?_); rintro e w1 ⟨rfl, rfl⟩)) | (go_at_call 34; ((with_reducible refine (CW3 _).mono ?_); rintro e w1 ⟨rfl, rfl⟩)) | (go_at_call 34; ((with_reducible refine (CW4 _).mono ?_); rintro e w1 ⟨rfl, rfl⟩)) | (go_at_call 34; ((with_reducible refine (CW5 _).mono ?_); rintro e w1 ⟨rfl, rfl⟩)) | (go_at_call 34; ((with_reducible refine (CW6 _).mono ?_); rintro e w1 ⟨rfl, rfl⟩))); go_ret; exact ⟨ret_b (HU.out.trans HF.out).symm, HG.out⟩
                · have HF : Hid (V = true) := by show _ = _; rw [HV.out]; rfl
                  clear HV
                  go_wp2_with (first | (go_at_call 34; ((with_reducible refine (CW1 _).mono ?_); rintro e w1 ⟨rfl, rfl⟩)) | (go_at_call 91; ((with_reducible refine (CW2 _).mono ?_); rintro e w1 ⟨rfl, rfl⟩)) | (go_at_call 34; ((with_reducible refine (CW3 _).mono ?_); rintro e w1 ⟨rfl, rfl⟩)) | (go_at_call 34; ((with_reducible refine (CW4 _).mono ?_); rintro e w1 ⟨rfl, rfl⟩)) | (go_at_call 34; ((with_reducible refine (CW5 _).mono ?_); rintro e w1 ⟨rfl, rfl⟩)) | (go_at_call 34; ((with_reducible refine (CW6 _).mono ?_); rintro e w1 ⟨rfl, rfl⟩))); go_ret; exact ⟨ret_b (HU.out.trans HF.out).symm, HG.out⟩

end Go.Proofs.Ytlbfljkhlkjcbaa.NumK
