/- Keys, trades, positions, one by one: which may be. -/
import Derived.Test.YtkbmiajgmnfpfaaRO
import Derived.Test.YtkbmiajgmnfpfaaRA2
namespace Go.Proofs.Ytkbmiajgmnfpfaa.NumK
open Go.RowKit
set_option linter.unusedVariables false

theorem info_tr : (Try.prog.info? 49).map (fun i => (i.zero, i.size, i.bytes)) = some (some (vTr tr0), 7, 56) := by kernel_rfl
abbrev vKy (k : Ky) : Value := .agg #[.int .i64 k.1, .int .i64 k.2]

theorem bwithin_any (n lo hi : Int) (w : World) : Calls Try.prog 33 #[.int .i64 n, .int .i64 lo, .int .i64 hi] w fun e w' => e = .returned (.bool (wi n lo hi)) ∧ w = w' := by
  by_cases h1 : lo ≤ n <;> by_cases h2 : n ≤ hi
  all_goals
    (have HR : Hid (wi n lo hi = (decide (lo ≤ n) && decide (n ≤ hi))) := rfl
     generalize wi n lo hi = R at *
     simp only [h1, h2, decide_true, decide_false, Bool.and_true, Bool.and_false] at HR
     go_enter Try.func33, Try.ntmps33
     go_wp2
     go_ret
     exact ⟨ret_b HR.out.symm, rfl⟩)

theorem permitted_any (a b : Int) (w : World) : Calls Try.prog 59 #[vKy (a, b)] w fun e w' => e = .returned (.bool (okK (a, b))) ∧ Grew w w' := by
  have HV : Hid (okK (a, b) = (wi a 1 16 && wi b 1 8)) := rfl
  have C1 := fun w => bwithin_any a 1 16 w
  have C2 := fun w => bwithin_any b 1 8 w
  generalize okK (a, b) = V at *
  generalize wi a 1 16 = R1 at *
  generalize wi b 1 8 = R2 at *
  dsimp only [vKy]
  cases R1
  · have HF : Hid (V = false) := by show _ = _; rw [HV.out]; rfl
    clear HV
    go_enter Try.func59, Try.ntmps59
    go_wp2_with (go_at_call 33; ((with_reducible refine (C1 _).mono ?_); rintro e w1 ⟨rfl, rfl⟩))
    go_ret
    exact ⟨ret_b HF.out.symm, grew_alloc _ _ _⟩
  · have HF : Hid (V = R2) := by show _ = _; rw [HV.out]; rfl
    clear HV
    go_enter Try.func59, Try.ntmps59
    go_wp2_with (first
      | (go_at_call 33; ((with_reducible refine (C1 _).mono ?_); rintro e w1 ⟨rfl, rfl⟩))
      | (go_at_call 33; ((with_reducible refine (C2 _).mono ?_); rintro e w1 ⟨rfl, rfl⟩)))
    go_ret
    exact ⟨ret_b HF.out.symm, grew_alloc _ _ _⟩

theorem rkey_any (a b : Int) (w : World) : Calls Try.prog 37 #[vKy (a, b)] w fun e w' => e = .returned (.bool (okK (a, b))) ∧ Grew w w' := by
  have HV : Hid (okK (a, b) = (wi a 1 16 && wi b 1 8)) := rfl
  have C1 := fun w => rwho_any a w
  have C2 := fun w => rwithin_any b 1 8 w
  generalize okK (a, b) = V at *
  generalize wi a 1 16 = R1 at *
  generalize wi b 1 8 = R2 at *
  dsimp only [vKy]
  cases R1
  · have HF : Hid (V = false) := by show _ = _; rw [HV.out]; rfl
    clear HV
    go_enter Try.func37, Try.ntmps37
    go_wp2_with (go_at_call 62; ((with_reducible refine (C1 _).mono ?_); rintro e w1 ⟨rfl, rfl⟩))
    go_ret
    exact ⟨ret_b HF.out.symm, grew_alloc _ _ _⟩
  · have HF : Hid (V = R2) := by show _ = _; rw [HV.out]; rfl
    clear HV
    go_enter Try.func37, Try.ntmps37
    go_wp2_with (first
      | (go_at_call 62; ((with_reducible refine (C1 _).mono ?_); rintro e w1 ⟨rfl, rfl⟩))
      | (go_at_call 36; ((with_reducible refine (C2 _).mono ?_); rintro e w1 ⟨rfl, rfl⟩)))
    go_ret
    exact ⟨ret_b HF.out.symm, grew_alloc _ _ _⟩

/-- Neither quantity nor cost. -/
def noneP (q c : Int) : Bool := decide (q = 0) && decide (c = 0)
theorem empty_any (x : Po) (w : World) : Calls Try.prog 60 #[vPo x] w fun e w' => e = .returned (.bool (noneP x.2.2.1 x.2.2.2)) ∧ Grew w w' := by
  obtain ⟨q1, q2, q3, q4⟩ := x
  have HV : Hid (noneP q3 q4 = (decide (q3 = 0) && decide (q4 = 0))) := rfl
  dsimp only [vPo]
  generalize noneP q3 q4 = V at *
  by_cases h1 : q3 = 0
  · by_cases h2 : q4 = 0
    · have HF : Hid (V = true) := by show _ = _; rw [HV.out, decide_eq_true h1, decide_eq_true h2]; rfl
      clear HV
      subst h1 h2
      go_enter Try.func60, Try.ntmps60
      go_wp2
      go_ret
      exact ⟨ret_b HF.out.symm, grew_alloc _ _ _⟩
    · have HF : Hid (V = false) := by show _ = _; rw [HV.out, decide_eq_false h2]; simp
      have d1 : (q4 == 0) = false := by simpa using h2
      clear HV h2
      subst h1
      go_enter Try.func60, Try.ntmps60
      go_wp2
      go_ret
      exact ⟨ret_b HF.out.symm, grew_alloc _ _ _⟩
  · have HF : Hid (V = false) := by show _ = _; rw [HV.out, decide_eq_false h1]; simp
    have d1 : (q3 == 0) = false := by simpa using h1
    clear HV h1
    go_enter Try.func60, Try.ntmps60
    go_wp2
    go_ret
    exact ⟨ret_b HF.out.symm, grew_alloc _ _ _⟩

theorem less_any (a b c d : Int) (w : World) : Calls Try.prog 61 #[vKy (a, b), vKy (c, d)] w fun e w' => e = .returned (.bool (kltB (a, b) (c, d))) ∧ Grew w w' := by
  have HV : Hid (kltB (a, b) (c, d) = (decide (a < c) || (decide (a = c) && decide (b < d)))) := rfl
  generalize kltB (a, b) (c, d) = V at *
  dsimp only [vKy]
  by_cases h1 : a < c
  · have HF : Hid (V = true) := by show _ = _; rw [HV.out, decide_eq_true h1]; rfl
    clear HV
    go_enter Try.func61, Try.ntmps61
    go_wp2
    go_ret
    exact ⟨ret_b HF.out.symm, grew_trans (grew_alloc _ _ _) (grew_alloc _ _ _)⟩
  · by_cases h2 : a = c
    · by_cases h3 : b < d
      all_goals
        (have HF := Lib.hid HV.out
         simp only [h2, h3, decide_true, decide_false, Bool.and_true, Bool.and_false, Bool.or_false, Bool.or_true] at HF
         subst h2
         clear HV
         go_enter Try.func61, Try.ntmps61
         go_wp2
         go_ret
         exact ⟨ret_b (by rw [HF.out]; try simp), grew_trans (grew_alloc _ _ _) (grew_alloc _ _ _)⟩)
    · have HF : Hid (V = false) := by show _ = _; rw [HV.out, decide_eq_false h1, decide_eq_false h2]; rfl
      have d1 : (a == c) = false := by simpa using h2
      clear HV h2
      go_enter Try.func61, Try.ntmps61
      go_wp2
      go_ret
      exact ⟨ret_b HF.out.symm, grew_trans (grew_alloc _ _ _) (grew_alloc _ _ _)⟩

theorem rless_any (a b c d : Int) (w : World) : Calls Try.prog 38 #[vKy (a, b), vKy (c, d)] w fun e w' => e = .returned (.bool (kltB (a, b) (c, d))) ∧ Grew w w' := by
  have HV : Hid (kltB (a, b) (c, d) = (decide (a < c) || (decide (a = c) && decide (b < d)))) := rfl
  generalize kltB (a, b) (c, d) = V at *
  dsimp only [vKy]
  by_cases h1 : a < c
  · have HF : Hid (V = true) := by show _ = _; rw [HV.out, decide_eq_true h1]; rfl
    clear HV
    go_enter Try.func38, Try.ntmps38
    go_wp2
    go_ret
    exact ⟨ret_b HF.out.symm, grew_trans (grew_alloc _ _ _) (grew_alloc _ _ _)⟩
  · by_cases h2 : a = c
    · by_cases h3 : b < d
      all_goals
        (have HF := Lib.hid HV.out
         simp only [h2, h3, decide_true, decide_false, Bool.and_true, Bool.and_false, Bool.or_false, Bool.or_true] at HF
         subst h2
         clear HV
         go_enter Try.func38, Try.ntmps38
         go_wp2
         go_ret
         exact ⟨ret_b (by rw [HF.out]; try simp), grew_trans (grew_alloc _ _ _) (grew_alloc _ _ _)⟩)
    · have HF : Hid (V = false) := by show _ = _; rw [HV.out, decide_eq_false h1, decide_eq_false h2]; rfl
      have d1 : (a == c) = false := by simpa using h2
      clear HV h2
      go_enter Try.func38, Try.ntmps38
      go_wp2
      go_ret
      exact ⟨ret_b HF.out.symm, grew_trans (grew_alloc _ _ _) (grew_alloc _ _ _)⟩

theorem nums_alt (t : Tr) : numsT t = ((((wi t.1.2.2.2.2.1 1 1048576 && wi t.1.2.2.2.2.2 1 1073741824) && okK (t.1.2.1, t.1.2.2.2.1)) && okK (t.1.2.2.1, t.1.2.2.2.1)) && !(decide (t.1.2.1 = t.1.2.2.1))) := by
  unfold numsT sizedT sizedB okK
  simp only
  cases wi t.1.2.2.2.2.1 1 1048576 <;> cases wi t.1.2.2.2.2.2 1 1073741824 <;> cases wi t.1.2.1 1 16 <;> cases wi t.1.2.2.1 1 16 <;> cases wi t.1.2.2.2.1 1 8 <;> simp

set_option maxRecDepth 100000 in
set_option maxHeartbeats 2000000 in
theorem rightTrade_any (t : Tr) (w : World) : Calls Try.prog 50 #[vTr t] w fun e w' => e = .returned (.bool (numsT t)) ∧ Grew w w' := by
  have HV := Lib.hid (nums_alt t)
  generalize numsT t = V at *
  obtain ⟨⟨q1, q2, q3, q4, q5, q6⟩, q7⟩ := t
  dsimp only at HV
  have C1 := fun w => bwithin_any q5 1 1048576 w
  have C2 := fun w => bwithin_any q6 1 1073741824 w
  have C3 := fun w => permitted_any q2 q4 w
  have C4 := fun w => permitted_any q3 q4 w
  have HX0 : Hid (OwnC (w.alloc (.cells #[.int .i64 q1, .int .i64 q2, .int .i64 q3, .int .i64 q4, .int .i64 q5, .int .i64 q6, .bool q7] 49)) w.heap.size [.int .i64 q1, .int .i64 q2, .int .i64 q3, .int .i64 q4, .int .i64 q5, .int .i64 q6, .bool q7]) := OwnC.new w [.int .i64 q1, .int .i64 q2, .int .i64 q3, .int .i64 q4, .int .i64 q5, .int .i64 q6, .bool q7] _ _ rfl
  generalize wi q5 1 1048576 = R1 at *
  generalize wi q6 1 1073741824 = R2 at *
  generalize okK (q2, q4) = R3 at *
  generalize okK (q3, q4) = R4 at *
  dsimp only [vTr, vKy] at C3 C4 ⊢
  cases R1
  · have HF : Hid (V = false) := by show _ = _; rw [HV.out]; rfl
    clear HV
    go_enter Try.func50, Try.ntmps50
    go_wp2_with (go_at_call 33; ((with_reducible refine (C1 _).mono ?_); rintro e w1 ⟨rfl, rfl⟩))
    go_ret
    exact ⟨ret_b HF.out.symm, grew_alloc _ _ _⟩
  · cases R2
    · have HF : Hid (V = false) := by show _ = _; rw [HV.out]; rfl
      clear HV
      go_enter Try.func50, Try.ntmps50
      go_wp2_with (first
        | (go_at_call 33; ((with_reducible refine (C1 _).mono ?_); rintro e w1 ⟨rfl, rfl⟩))
        | (go_at_call 33; ((with_reducible refine (C2 _).mono ?_); rintro e w1 ⟨rfl, rfl⟩)))
      go_ret
      exact ⟨ret_b HF.out.symm, grew_alloc _ _ _⟩
    · cases R3
      · have HF : Hid (V = false) := by show _ = _; rw [HV.out]; rfl
        clear HV
        go_enter Try.func50, Try.ntmps50
        go_wp2_with (first
          | (go_at_call 33; ((with_reducible refine (C1 _).mono ?_); rintro e w1 ⟨rfl, rfl⟩))
          | (go_at_call 33; ((with_reducible refine (C2 _).mono ?_); rintro e w1 ⟨rfl, rfl⟩))
          | (go_at_call 59; ((with_reducible refine (C3 _).mono ?_); rintro e w1 ⟨rfl, hg⟩; have HG1 := Lib.hid (own_back hg); clear hg)))
        go_ret
        exact ⟨ret_b HF.out.symm, HG1.out⟩
      · cases R4
        · have HF : Hid (V = false) := by show _ = _; rw [HV.out]; rfl
          clear HV
          go_enter Try.func50, Try.ntmps50
          go_wp2_with (first
            | (go_at_call 33; ((with_reducible refine (C1 _).mono ?_); rintro e w1 ⟨rfl, rfl⟩))
            | (go_at_call 33; ((with_reducible refine (C2 _).mono ?_); rintro e w1 ⟨rfl, rfl⟩))
            | (go_at_call 59; ((with_reducible refine (C3 _).mono ?_); rintro e w1 ⟨rfl, hg⟩; have HG1 := Lib.hid (own_back hg); have HX1 := Lib.hid (HX0.out.keep hg); have x2 : w1.cell? ⟨w.heap.size, 2, none⟩ = some (.int .i64 q3) := HX1.out.at 2 _ rfl; have x3 : w1.cell? ⟨w.heap.size, 3, none⟩ = some (.int .i64 q4) := HX1.out.at 3 _ rfl; clear hg C3))
            | (go_at_call 59; ((with_reducible refine (C4 _).mono ?_); rintro e w2 ⟨rfl, hg⟩; have HG2 := Lib.hid (grew_trans HG1.out hg); clear hg)))
          go_ret
          exact ⟨ret_b HF.out.symm, HG2.out⟩
        · have HF : Hid (V = !(decide (q2 = q3))) := by show _ = _; rw [HV.out]; rfl
          clear HV
          by_cases h5 : q2 = q3
          · have HF2 : Hid (V = false) := by show _ = _; rw [HF.out, decide_eq_true h5]; rfl
            subst h5
            clear HF
            go_enter Try.func50, Try.ntmps50
            go_wp2_with (first
              | (go_at_call 33; ((with_reducible refine (C1 _).mono ?_); rintro e w1 ⟨rfl, rfl⟩))
              | (go_at_call 33; ((with_reducible refine (C2 _).mono ?_); rintro e w1 ⟨rfl, rfl⟩))
              | (go_at_call 59; ((with_reducible refine (C3 _).mono ?_); rintro e w1 ⟨rfl, hg⟩; have HG1 := Lib.hid (own_back hg); have HX1 := Lib.hid (HX0.out.keep hg); have x2 : w1.cell? ⟨w.heap.size, 2, none⟩ = some (.int .i64 q2) := HX1.out.at 2 _ rfl; have x3 : w1.cell? ⟨w.heap.size, 3, none⟩ = some (.int .i64 q4) := HX1.out.at 3 _ rfl; clear hg C3))
              | (go_at_call 59; ((with_reducible refine (C4 _).mono ?_); rintro e w2 ⟨rfl, hg⟩; have HG2 := Lib.hid (grew_trans HG1.out hg); have HX2 := Lib.hid (HX1.out.keep hg); have y1 : w2.cell? ⟨w.heap.size, 1, none⟩ = some (.int .i64 q2) := HX2.out.at 1 _ rfl; have y2 : w2.cell? ⟨w.heap.size, 2, none⟩ = some (.int .i64 q2) := HX2.out.at 2 _ rfl; clear hg)))
            go_ret
            exact ⟨ret_b HF2.out.symm, HG2.out⟩
          · have HF2 : Hid (V = true) := by show _ = _; rw [HF.out, decide_eq_false h5]; rfl
            have d1 : (q2 != q3) = true := by simpa using h5
            clear HF h5
            go_enter Try.func50, Try.ntmps50
            go_wp2_with (first
              | (go_at_call 33; ((with_reducible refine (C1 _).mono ?_); rintro e w1 ⟨rfl, rfl⟩))
              | (go_at_call 33; ((with_reducible refine (C2 _).mono ?_); rintro e w1 ⟨rfl, rfl⟩))
              | (go_at_call 59; ((with_reducible refine (C3 _).mono ?_); rintro e w1 ⟨rfl, hg⟩; have HG1 := Lib.hid (own_back hg); have HX1 := Lib.hid (HX0.out.keep hg); have x2 : w1.cell? ⟨w.heap.size, 2, none⟩ = some (.int .i64 q3) := HX1.out.at 2 _ rfl; have x3 : w1.cell? ⟨w.heap.size, 3, none⟩ = some (.int .i64 q4) := HX1.out.at 3 _ rfl; clear hg C3))
              | (go_at_call 59; ((with_reducible refine (C4 _).mono ?_); rintro e w2 ⟨rfl, hg⟩; have HG2 := Lib.hid (grew_trans HG1.out hg); have HX2 := Lib.hid (HX1.out.keep hg); have y1 : w2.cell? ⟨w.heap.size, 1, none⟩ = some (.int .i64 q2) := HX2.out.at 1 _ rfl; have y2 : w2.cell? ⟨w.heap.size, 2, none⟩ = some (.int .i64 q3) := HX2.out.at 2 _ rfl; clear hg)))
            go_ret
            exact ⟨ret_b HF2.out.symm, HG2.out⟩
end Go.Proofs.Ytkbmiajgmnfpfaa.NumK
