/- Books in memory; book.Check, Of, in, Sum, Clear; slices.Clone. -/
import Derived.Test.YtodnllopokoicaaGreatRH24
import Derived.Lib.Walk
import Derived.Lib.SliceRun
import Derived.Test.YtodnllopokoicaaGreatRH22
import Derived.Test.YtodnllopokoicaaGreatRH6
import Derived.Deep.RegionHeld3
import Derived.Test.YtodnllopokoicaaGreatRH3
namespace Go.Proofs.YtodnllopokoicaaGreat.NumK
open Go.RowKit
set_option linter.unusedVariables false

abbrev vBk (next : Int) (A1 A2 : Option Addr) (n1 n2 c1 c2 : Nat) : Value := .agg #[.int .i64 next, .slice A1 n1 c1, .slice A2 n2 c2]
/-- What of a book's slices is known whoever owns them. -/
structure InB (w : World) (b : Bk) (A1 A2 : Option Addr) (n1 n2 c1 c2 : Nat) : Prop where
  t : RowE enTr w A1 n1 b.2.1
  p : RowE enPo w A2 n2 b.2.2
  k1 : A1 = none → c1 = 0
  k2 : A2 = none → c2 = 0
  l1 : n1 ≤ c1 ∧ c1 ≤ 9223372036854775807
  l2 : n2 ≤ c2 ∧ c2 ≤ 9223372036854775807
structure OwnB (w : World) (base : Nat) (b : Bk) (A1 A2 : Option Addr) (c1 c2 : Nat) : Prop where
  t : OwnE enTr w base 158 (.slice A1 b.2.1.length c1) b.2.1
  p : OwnE enPo w base 111 (.slice A2 b.2.2.length c2) b.2.2
  ne : Apart A1 A2
section
variable {w w' : World} {base : Nat} {b : Bk} {A1 A2 : Option Addr} {n1 n2 c1 c2 : Nat}
theorem InB.keep (h : InB w b A1 A2 n1 n2 c1 c2) (g : Grew w w') : InB w' b A1 A2 n1 n2 c1 c2 := ⟨h.t.keep g, h.p.keep g, h.k1, h.k2, h.l1, h.l2⟩
theorem OwnB.keep (h : OwnB w base b A1 A2 c1 c2) (g : Grew w w') : OwnB w' base b A1 A2 c1 c2 := ⟨h.t.keep g, h.p.keep g, h.ne⟩
theorem OwnB.mono {b2 : Nat} (h : OwnB w base b A1 A2 c1 c2) (hb : b2 ≤ base) : OwnB w b2 b A1 A2 c1 c2 := ⟨h.t.mono hb, h.p.mono hb, h.ne⟩
theorem OwnB.in (h : OwnB w base b A1 A2 c1 c2) : InB w b A1 A2 b.2.1.length b.2.2.length c1 c2 :=
  ⟨(own_form h.t).1, (own_form h.p).1, (own_form h.t).2.1, (own_form h.p).2.1, (own_form h.t).2.2, (own_form h.p).2.2⟩
theorem OwnB.nil (w : World) (base : Nat) : OwnB w base bk0 none none 0 0 := ⟨OwnE.nil _ _ _ _, OwnE.nil _ _ _ _, fun x y h => by cases h⟩
end
/-- A book that a call hands back. -/
def BookP (b : Bk) (w : World) (e : Ending) (w' : World) : Prop :=
  ∃ A1 A2 c1 c2, e = .returned (vBk b.1 A1 A2 b.2.1.length b.2.2.length c1 c2) ∧ OwnB w' w.heap.size b A1 A2 c1 c2 ∧ Grew w w'
/-- A book and an error. -/
def BookE (b : Bk) (n : Int) (w : World) (e : Ending) (w' : World) : Prop :=
  ∃ A1 A2 c1 c2, e = .returned (.tuple #[vBk b.1 A1 A2 b.2.1.length b.2.2.length c1 c2, .int .i64 n]) ∧ OwnB w' w.heap.size b A1 A2 c1 c2 ∧ Grew w w'
/-- A book, a number and an error. -/
def BookN (b : Bk) (no n : Int) (w : World) (e : Ending) (w' : World) : Prop :=
  ∃ A1 A2 c1 c2, e = .returned (.tuple #[vBk b.1 A1 A2 b.2.1.length b.2.2.length c1 c2, .int .i64 no, .int .i64 n]) ∧ OwnB w' w.heap.size b A1 A2 c1 c2 ∧ Grew w w'

def chkB (b : Bk) : Int := if rightB b then 0 else 14
set_option maxRecDepth 100000 in
set_option maxHeartbeats 1000000 in
theorem bcheck_any (b : Bk) (A1 A2 : Option Addr) (n1 n2 c1 c2 : Nat) (w : World) (h : InB w b A1 A2 n1 n2 c1 c2) (hn : n1 ≤ 100000 ∧ n2 ≤ 100000) :
    Calls Tryz.prog 35 #[vBk b.1 A1 A2 n1 n2 c1 c2] w fun e w' => e = .returned (.int .i64 (chkB b)) ∧ Grew w w' := by
  have C1 := fun w' => bwithin_any b.1 0 1099511627776 w'
  have C2 := fun w' (g : Grew w w') => rightPoss_any A2 n2 c2 b.2.2 w' (h.p.keep g) hn.2
  have C3 := fun w' (g : Grew w w') => rightTrades_any A1 n1 c1 b.2.1 b.1 w' (h.t.keep g) hn.1
  have HR : Hid (chkB b = if (wi b.1 0 1099511627776 && rightTs b.1 b.2.1 && rightPs b.2.2) = true then 0 else 14) := rfl
  have HX0 : Hid (OwnC (w.alloc (.cells #[.int .i64 b.1, .slice A1 n1 c1, .slice A2 n2 c2] 32)) w.heap.size [.int .i64 b.1, .slice A1 n1 c1, .slice A2 n2 c2]) := OwnC.new w [.int .i64 b.1, .slice A1 n1 c1, .slice A2 n2 c2] _ _ rfl
  clear h
  generalize chkB b = V at *
  generalize rightTs b.1 b.2.1 = R3 at *
  generalize rightPs b.2.2 = R2 at *
  generalize b.1 = nx at *
  generalize wi nx 0 1099511627776 = R1 at *
  dsimp only [vBk]
  have H : (R1 = false) ∨ (R1 = true ∧ R2 = false) ∨ (R1 = true ∧ R2 = true) := by cases R1 <;> cases R2 <;> simp
  rcases H with rfl | ⟨rfl, rfl⟩ | ⟨rfl, rfl⟩
  · have HF : Hid (V = 14) := by show _ = _; rw [HR.out]; rfl
    clear HR
    go_enter Tryz.func35, Tryz.ntmps35
    go_wp2_with (go_at_call 86; ((with_reducible refine (C1 _).mono ?_); rintro e w1 ⟨rfl, rfl⟩))
    go_ret
    exact ⟨ret_i HF.out.symm, grew_alloc _ _ _⟩
  · have HF : Hid (V = 14) := by show _ = _; rw [HR.out]; cases R3 <;> rfl
    clear HR
    go_enter Tryz.func35, Tryz.ntmps35
    go_wp2_with (first
      | (go_at_call 86; ((with_reducible refine (C1 _).mono ?_); rintro e w1 ⟨rfl, rfl⟩))
      | (go_at_call 87; ((with_reducible refine (C2 _ (grew_alloc _ _ _)).mono ?_); rintro e w2 ⟨rfl, hg⟩; have HG2 := Lib.hid (own_back hg); clear hg)))
    go_ret
    exact ⟨ret_i HF.out.symm, HG2.out⟩
  · cases R3
    all_goals
      (have HF := Lib.hid HR.out
       simp only [Bool.and_true, Bool.and_false, if_true, Bool.false_eq_true, if_false] at HF
       clear HR
       go_enter Tryz.func35, Tryz.ntmps35
       go_wp2_with (first
         | (go_at_call 86; ((with_reducible refine (C1 _).mono ?_); rintro e w1 ⟨rfl, rfl⟩))
         | (go_at_call 87; ((with_reducible refine (C2 _ (grew_alloc _ _ _)).mono ?_); rintro e w2 ⟨rfl, hg⟩; have HG2 := Lib.hid (own_back hg); have x0 : w2.cell? ⟨w.heap.size, 0, none⟩ = some (.int .i64 nx) := (HX0.out.keep hg).at 0 _ rfl; have x1 : w2.cell? ⟨w.heap.size, 1, none⟩ = some (.slice A1 n1 c1) := (HX0.out.keep hg).at 1 _ rfl; clear hg))
         | (go_at_call 88; ((with_reducible refine (C3 _ HG2.out).mono ?_); rintro e w3 ⟨rfl, hg⟩; have HG3 := Lib.hid (grew_trans HG2.out hg); clear hg)))
       go_ret
       exact ⟨ret_i HF.out.symm, HG3.out⟩)

/-! ### slices.Clone -/
end Go.Proofs.YtodnllopokoicaaGreat.NumK
namespace Go.Proofs.YtodnllopokoicaaGreat.NumK
open Go.RowKit
set_option linter.unusedVariables false

set_option maxRecDepth 100000 in
set_option maxHeartbeats 1000000 in
theorem heavy_any (nx : Int) (A1 A2 : Option Addr) (n1 n2 c1 c2 : Nat) (w : World) :
    Calls Tryz.prog 16 #[vBk nx A1 A2 n1 n2 c1 c2] w fun e w' => e = .returned (.bool (decide (300 < n1) || decide (300 < n2))) ∧ Grew w w' := by
  dsimp only [vBk]
  go_enter Tryz.func16, Tryz.ntmps16
  by_cases h1 : 300 < n1
  · have k1 : (300 : Int) < (n1 : Int) := by omega
    go_wp2
    go_ret
    exact ⟨by simp [h1], grew_alloc _ _ _⟩
  · have k1 : ¬ (300 : Int) < (n1 : Int) := by omega
    by_cases h2 : 300 < n2
    · have k2 : (300 : Int) < (n2 : Int) := by omega
      go_wp2
      go_ret
      exact ⟨by simp, grew_alloc _ _ _⟩
    · have k2 : ¬ (300 : Int) < (n2 : Int) := by omega
      go_wp2
      go_ret
      exact ⟨by simp, grew_alloc _ _ _⟩
end Go.Proofs.YtodnllopokoicaaGreat.NumK
namespace Go.Proofs.YtodnllopokoicaaGreat.NumK
open Go.RowKit
set_option linter.unusedVariables false

/-- A state as a value: its clock, roll, book, ledger, and four rows. -/
abbrev stV (t1 t2 t3 nx last : Int) (A1 A2 A3 E1 E2 L P Q1 Q2 Q3 : Option Addr) (n1 n2 n3 c1 c2 c3 m1 m2 k1 k2 nl cl np cp u1 v1 u2 v2 u3 v3 : Nat) : Value :=
  .agg #[.int .i64 t1, .int .i64 t2, .int .i64 t3, .slice A1 n1 c1, .slice A2 n2 c2, .slice A3 n3 c3, .int .i64 nx, .slice E1 m1 k1, .slice E2 m2 k2, .int .i64 last, .slice L nl cl, .slice P np cp, .slice Q1 u1 v1, .slice Q2 u2 v2, .slice Q3 u3 v3]
def heavyS (n1 n2 n3 m1 m2 nl np u1 u2 u3 : Nat) : Bool :=
  heavyR n1 n2 n3 || ((decide (300 < m1) || decide (300 < m2)) || (decide (300 < nl) || (decide (300 < np) || (decide (300 < u1) || (decide (300 < u2) || decide (300 < u3))))))
theorem heavyS_no {n1 n2 n3 m1 m2 nl np u1 u2 u3 : Nat} (h : heavyS n1 n2 n3 m1 m2 nl np u1 u2 u3 = false) : (n1 ≤ 100 ∧ n2 ≤ 100 ∧ n3 ≤ 100) ∧ (m1 ≤ 300 ∧ m2 ≤ 300) ∧ nl ≤ 300 ∧ np ≤ 300 ∧ u1 ≤ 300 ∧ u2 ≤ 300 ∧ u3 ≤ 300 := by
  unfold heavyS heavyR at h
  simp only [Bool.or_eq_false_iff, decide_eq_false_iff_not] at h
  omega

set_option maxRecDepth 100000 in
set_option maxHeartbeats 8000000 in
theorem heavy16_any (t1 t2 t3 nx last : Int) (A1 A2 A3 E1 E2 L P Q1 Q2 Q3 : Option Addr) (n1 n2 n3 c1 c2 c3 m1 m2 k1 k2 nl cl np cp u1 v1 u2 v2 u3 v3 : Nat) (w : World) :
    Calls Tryz.prog 5 #[stV t1 t2 t3 nx last A1 A2 A3 E1 E2 L P Q1 Q2 Q3 n1 n2 n3 c1 c2 c3 m1 m2 k1 k2 nl cl np cp u1 v1 u2 v2 u3 v3] w fun e w' => e = .returned (.bool (heavyS n1 n2 n3 m1 m2 nl np u1 u2 u3)) ∧ Grew w w' := by
  have C1 := fun w => heavy11_any A1 A2 A3 n1 n2 n3 c1 c2 c3 w
  have C2 := fun w => heavy_any nx E1 E2 m1 m2 k1 k2 w
  have HV : Hid (heavyS n1 n2 n3 m1 m2 nl np u1 u2 u3 = (heavyR n1 n2 n3 || ((decide (300 < m1) || decide (300 < m2)) || (decide (300 < nl) || (decide (300 < np) || (decide (300 < u1) || (decide (300 < u2) || decide (300 < u3)))))))) := rfl
  generalize heavyS n1 n2 n3 m1 m2 nl np u1 u2 u3 = V at *
  generalize heavyR n1 n2 n3 = R1 at *
  generalize (decide (300 < m1) || decide (300 < m2)) = R2 at *
  dsimp only [rlV, vBk, stV] at *
  have HX0 : Hid (OwnC (w.alloc (.cells #[.int .i64 t1, .int .i64 t2, .int .i64 t3, .slice A1 n1 c1, .slice A2 n2 c2, .slice A3 n3 c3, .int .i64 nx, .slice E1 m1 k1, .slice E2 m2 k2, .int .i64 last, .slice L nl cl, .slice P np cp, .slice Q1 u1 v1, .slice Q2 u2 v2, .slice Q3 u3 v3] 41)) w.heap.size [.int .i64 t1, .int .i64 t2, .int .i64 t3, .slice A1 n1 c1, .slice A2 n2 c2, .slice A3 n3 c3, .int .i64 nx, .slice E1 m1 k1, .slice E2 m2 k2, .int .i64 last, .slice L nl cl, .slice P np cp, .slice Q1 u1 v1, .slice Q2 u2 v2, .slice Q3 u3 v3]) := OwnC.new w [.int .i64 t1, .int .i64 t2, .int .i64 t3, .slice A1 n1 c1, .slice A2 n2 c2, .slice A3 n3 c3, .int .i64 nx, .slice E1 m1 k1, .slice E2 m2 k2, .int .i64 last, .slice L nl cl, .slice P np cp, .slice Q1 u1 v1, .slice Q2 u2 v2, .slice Q3 u3 v3] _ _ rfl
  have HG0 : Hid (Grew w (w.alloc (.cells #[.int .i64 t1, .int .i64 t2, .int .i64 t3, .slice A1 n1 c1, .slice A2 n2 c2, .slice A3 n3 c3, .int .i64 nx, .slice E1 m1 k1, .slice E2 m2 k2, .int .i64 last, .slice L nl cl, .slice P np cp, .slice Q1 u1 v1, .slice Q2 u2 v2, .slice Q3 u3 v3] 41))) := grew_alloc _ _ _
  go_enter Tryz.func5, Tryz.ntmps5
  go_upto_region 1 with (fail)
  generalize (w.alloc (.cells #[.int .i64 t1, .int .i64 t2, .int .i64 t3, .slice A1 n1 c1, .slice A2 n2 c2, .slice A3 n3 c3, .int .i64 nx, .slice E1 m1 k1, .slice E2 m2 k2, .int .i64 last, .slice L nl cl, .slice P np cp, .slice Q1 u1 v1, .slice Q2 u2 v2, .slice Q3 u3 v3] 41)) = w0 at *
  generalize w.heap.size = N at *
  have a0 := HX0.out.at 0 (.int .i64 t1) rfl; have a1 := HX0.out.at 1 (.int .i64 t2) rfl; have a2 := HX0.out.at 2 (.int .i64 t3) rfl; have a3 := HX0.out.at 3 (.slice A1 n1 c1) rfl; have a4 := HX0.out.at 4 (.slice A2 n2 c2) rfl; have a5 := HX0.out.at 5 (.slice A3 n3 c3) rfl; have a6 := HX0.out.at 6 (.int .i64 nx) rfl; have a7 := HX0.out.at 7 (.slice E1 m1 k1) rfl; have a8 := HX0.out.at 8 (.slice E2 m2 k2) rfl; have a9 := HX0.out.at 9 (.int .i64 last) rfl; have a10 := HX0.out.at 10 (.slice L nl cl) rfl; have a11 := HX0.out.at 11 (.slice P np cp) rfl; have a12 := HX0.out.at 12 (.slice Q1 u1 v1) rfl; have a13 := HX0.out.at 13 (.slice Q2 u2 v2) rfl; have a14 := HX0.out.at 14 (.slice Q3 u3 v3) rfl
  cases R1
  · cases R2
    · by_cases h0 : 300 < nl
      · have HF : Hid (V = true) := by show _ = _; rw [HV.out, decide_eq_true h0]; first | done | simp
        have j0 : (nl : Int) > 300 := by omega
        clear HV
        go_wp2_with (first
          | (go_at_call 15; ((with_reducible refine (C1 _).mono ?_); rintro e w1 ⟨rfl, hg⟩; have HX1 := Lib.hid (HX0.out.keep hg); have HG1 := Lib.hid (grew_trans HG0.out hg); clear hg C1 HX0 HG0 a0 a1 a2 a3 a4 a5 a6 a7 a8 a9 a10 a11 a12 a13 a14; have b6 := HX1.out.at 6 (.int .i64 nx) rfl; have b7 := HX1.out.at 7 (.slice E1 m1 k1) rfl; have b8 := HX1.out.at 8 (.slice E2 m2 k2) rfl))
          | (go_at_call 16; ((with_reducible refine (C2 _).mono ?_); rintro e w2 ⟨rfl, hg⟩; have HX2 := Lib.hid (HX1.out.keep hg); have HG2 := Lib.hid (grew_trans HG1.out hg); clear hg C2 HX1 HG1 b6 b7 b8; have d10 := HX2.out.at 10 (.slice L nl cl) rfl; have d11 := HX2.out.at 11 (.slice P np cp) rfl; have d12 := HX2.out.at 12 (.slice Q1 u1 v1) rfl; have d13 := HX2.out.at 13 (.slice Q2 u2 v2) rfl; have d14 := HX2.out.at 14 (.slice Q3 u3 v3) rfl)))
        go_ret
        exact ⟨ret_b HF.out.symm, HG2.out⟩
      · by_cases h1 : 300 < np
        · have HF : Hid (V = true) := by show _ = _; rw [HV.out, decide_eq_false h0, decide_eq_true h1]; first | done | simp
          have j1 : (np : Int) > 300 := by omega
          have j0 : ¬ (nl : Int) > 300 := (by omega)
          clear HV
          go_wp2_with (first
            | (go_at_call 15; ((with_reducible refine (C1 _).mono ?_); rintro e w1 ⟨rfl, hg⟩; have HX1 := Lib.hid (HX0.out.keep hg); have HG1 := Lib.hid (grew_trans HG0.out hg); clear hg C1 HX0 HG0 a0 a1 a2 a3 a4 a5 a6 a7 a8 a9 a10 a11 a12 a13 a14; have b6 := HX1.out.at 6 (.int .i64 nx) rfl; have b7 := HX1.out.at 7 (.slice E1 m1 k1) rfl; have b8 := HX1.out.at 8 (.slice E2 m2 k2) rfl))
            | (go_at_call 16; ((with_reducible refine (C2 _).mono ?_); rintro e w2 ⟨rfl, hg⟩; have HX2 := Lib.hid (HX1.out.keep hg); have HG2 := Lib.hid (grew_trans HG1.out hg); clear hg C2 HX1 HG1 b6 b7 b8; have d10 := HX2.out.at 10 (.slice L nl cl) rfl; have d11 := HX2.out.at 11 (.slice P np cp) rfl; have d12 := HX2.out.at 12 (.slice Q1 u1 v1) rfl; have d13 := HX2.out.at 13 (.slice Q2 u2 v2) rfl; have d14 := HX2.out.at 14 (.slice Q3 u3 v3) rfl)))
          go_ret
          exact ⟨ret_b HF.out.symm, HG2.out⟩
        · by_cases h2 : 300 < u1
          · have HF : Hid (V = true) := by show _ = _; rw [HV.out, decide_eq_false h0, decide_eq_false h1, decide_eq_true h2]; first | done | simp
            have j2 : (u1 : Int) > 300 := by omega
            have j0 : ¬ (nl : Int) > 300 := (by omega); have j1 : ¬ (np : Int) > 300 := (by omega)
            clear HV
            go_wp2_with (first
              | (go_at_call 15; ((with_reducible refine (C1 _).mono ?_); rintro e w1 ⟨rfl, hg⟩; have HX1 := Lib.hid (HX0.out.keep hg); have HG1 := Lib.hid (grew_trans HG0.out hg); clear hg C1 HX0 HG0 a0 a1 a2 a3 a4 a5 a6 a7 a8 a9 a10 a11 a12 a13 a14; have b6 := HX1.out.at 6 (.int .i64 nx) rfl; have b7 := HX1.out.at 7 (.slice E1 m1 k1) rfl; have b8 := HX1.out.at 8 (.slice E2 m2 k2) rfl))
              | (go_at_call 16; ((with_reducible refine (C2 _).mono ?_); rintro e w2 ⟨rfl, hg⟩; have HX2 := Lib.hid (HX1.out.keep hg); have HG2 := Lib.hid (grew_trans HG1.out hg); clear hg C2 HX1 HG1 b6 b7 b8; have d10 := HX2.out.at 10 (.slice L nl cl) rfl; have d11 := HX2.out.at 11 (.slice P np cp) rfl; have d12 := HX2.out.at 12 (.slice Q1 u1 v1) rfl; have d13 := HX2.out.at 13 (.slice Q2 u2 v2) rfl; have d14 := HX2.out.at 14 (.slice Q3 u3 v3) rfl)))
            go_ret
            exact ⟨ret_b HF.out.symm, HG2.out⟩
          · by_cases h3 : 300 < u2
            · have HF : Hid (V = true) := by show _ = _; rw [HV.out, decide_eq_false h0, decide_eq_false h1, decide_eq_false h2, decide_eq_true h3]; first | done | simp
              have j3 : (u2 : Int) > 300 := by omega
              have j0 : ¬ (nl : Int) > 300 := (by omega); have j1 : ¬ (np : Int) > 300 := (by omega); have j2 : ¬ (u1 : Int) > 300 := (by omega)
              clear HV
              go_wp2_with (first
                | (go_at_call 15; ((with_reducible refine (C1 _).mono ?_); rintro e w1 ⟨rfl, hg⟩; have HX1 := Lib.hid (HX0.out.keep hg); have HG1 := Lib.hid (grew_trans HG0.out hg); clear hg C1 HX0 HG0 a0 a1 a2 a3 a4 a5 a6 a7 a8 a9 a10 a11 a12 a13 a14; have b6 := HX1.out.at 6 (.int .i64 nx) rfl; have b7 := HX1.out.at 7 (.slice E1 m1 k1) rfl; have b8 := HX1.out.at 8 (.slice E2 m2 k2) rfl))
                | (go_at_call 16; ((with_reducible refine (C2 _).mono ?_); rintro e w2 ⟨rfl, hg⟩; have HX2 := Lib.hid (HX1.out.keep hg); have HG2 := Lib.hid (grew_trans HG1.out hg); clear hg C2 HX1 HG1 b6 b7 b8; have d10 := HX2.out.at 10 (.slice L nl cl) rfl; have d11 := HX2.out.at 11 (.slice P np cp) rfl; have d12 := HX2.out.at 12 (.slice Q1 u1 v1) rfl; have d13 := HX2.out.at 13 (.slice Q2 u2 v2) rfl; have d14 := HX2.out.at 14 (.slice Q3 u3 v3) rfl)))
              go_ret
              exact ⟨ret_b HF.out.symm, HG2.out⟩
            · by_cases h4 : 300 < u3
              · have HF : Hid (V = true) := by show _ = _; rw [HV.out, decide_eq_false h0, decide_eq_false h1, decide_eq_false h2, decide_eq_false h3, decide_eq_true h4]; first | done | simp
                have j4 : (u3 : Int) > 300 := by omega
                have j0 : ¬ (nl : Int) > 300 := (by omega); have j1 : ¬ (np : Int) > 300 := (by omega); have j2 : ¬ (u1 : Int) > 300 := (by omega); have j3 : ¬ (u2 : Int) > 300 := (by omega)
                clear HV
                go_wp2_with (first
                  | (go_at_call 15; ((with_reducible refine (C1 _).mono ?_); rintro e w1 ⟨rfl, hg⟩; have HX1 := Lib.hid (HX0.out.keep hg); have HG1 := Lib.hid (grew_trans HG0.out hg); clear hg C1 HX0 HG0 a0 a1 a2 a3 a4 a5 a6 a7 a8 a9 a10 a11 a12 a13 a14; have b6 := HX1.out.at 6 (.int .i64 nx) rfl; have b7 := HX1.out.at 7 (.slice E1 m1 k1) rfl; have b8 := HX1.out.at 8 (.slice E2 m2 k2) rfl))
                  | (go_at_call 16; ((with_reducible refine (C2 _).mono ?_); rintro e w2 ⟨rfl, hg⟩; have HX2 := Lib.hid (HX1.out.keep hg); have HG2 := Lib.hid (grew_trans HG1.out hg); clear hg C2 HX1 HG1 b6 b7 b8; have d10 := HX2.out.at 10 (.slice L nl cl) rfl; have d11 := HX2.out.at 11 (.slice P np cp) rfl; have d12 := HX2.out.at 12 (.slice Q1 u1 v1) rfl; have d13 := HX2.out.at 13 (.slice Q2 u2 v2) rfl; have d14 := HX2.out.at 14 (.slice Q3 u3 v3) rfl)))
                go_ret
                exact ⟨ret_b HF.out.symm, HG2.out⟩
              · have HF : Hid (V = false) := by show _ = _; rw [HV.out, decide_eq_false h0, decide_eq_false h1, decide_eq_false h2, decide_eq_false h3, decide_eq_false h4]; rfl
                have j0 : ¬ (nl : Int) > 300 := (by omega); have j1 : ¬ (np : Int) > 300 := (by omega); have j2 : ¬ (u1 : Int) > 300 := (by omega); have j3 : ¬ (u2 : Int) > 300 := (by omega); have j4 : ¬ (u3 : Int) > 300 := (by omega)
                clear HV
                go_wp2_with (first
                  | (go_at_call 15; ((with_reducible refine (C1 _).mono ?_); rintro e w1 ⟨rfl, hg⟩; have HX1 := Lib.hid (HX0.out.keep hg); have HG1 := Lib.hid (grew_trans HG0.out hg); clear hg C1 HX0 HG0 a0 a1 a2 a3 a4 a5 a6 a7 a8 a9 a10 a11 a12 a13 a14; have b6 := HX1.out.at 6 (.int .i64 nx) rfl; have b7 := HX1.out.at 7 (.slice E1 m1 k1) rfl; have b8 := HX1.out.at 8 (.slice E2 m2 k2) rfl))
                  | (go_at_call 16; ((with_reducible refine (C2 _).mono ?_); rintro e w2 ⟨rfl, hg⟩; have HX2 := Lib.hid (HX1.out.keep hg); have HG2 := Lib.hid (grew_trans HG1.out hg); clear hg C2 HX1 HG1 b6 b7 b8; have d10 := HX2.out.at 10 (.slice L nl cl) rfl; have d11 := HX2.out.at 11 (.slice P np cp) rfl; have d12 := HX2.out.at 12 (.slice Q1 u1 v1) rfl; have d13 := HX2.out.at 13 (.slice Q2 u2 v2) rfl; have d14 := HX2.out.at 14 (.slice Q3 u3 v3) rfl)))
                go_ret
                exact ⟨ret_b (by rw [HF.out]; simp only [Bool.or_eq_false_iff, decide_eq_false_iff_not]; omega), HG2.out⟩
    · have HF : Hid (V = true) := by show _ = _; rw [HV.out]; rfl
      clear HV
      go_wp2_with (first
        | (go_at_call 15; ((with_reducible refine (C1 _).mono ?_); rintro e w1 ⟨rfl, hg⟩; have HX1 := Lib.hid (HX0.out.keep hg); have HG1 := Lib.hid (grew_trans HG0.out hg); clear hg C1 HX0 HG0 a0 a1 a2 a3 a4 a5 a6 a7 a8 a9 a10 a11 a12 a13 a14; have b6 := HX1.out.at 6 (.int .i64 nx) rfl; have b7 := HX1.out.at 7 (.slice E1 m1 k1) rfl; have b8 := HX1.out.at 8 (.slice E2 m2 k2) rfl))
        | (go_at_call 16; ((with_reducible refine (C2 _).mono ?_); rintro e w2 ⟨rfl, hg⟩; have HX2 := Lib.hid (HX1.out.keep hg); have HG2 := Lib.hid (grew_trans HG1.out hg); clear hg C2 HX1 HG1 b6 b7 b8; have d10 := HX2.out.at 10 (.slice L nl cl) rfl; have d11 := HX2.out.at 11 (.slice P np cp) rfl; have d12 := HX2.out.at 12 (.slice Q1 u1 v1) rfl; have d13 := HX2.out.at 13 (.slice Q2 u2 v2) rfl; have d14 := HX2.out.at 14 (.slice Q3 u3 v3) rfl)))
      go_ret
      exact ⟨ret_b HF.out.symm, HG2.out⟩
  · have HF : Hid (V = true) := by show _ = _; rw [HV.out]; rfl
    clear HV
    go_wp2_with (first
      | (go_at_call 15; ((with_reducible refine (C1 _).mono ?_); rintro e w1 ⟨rfl, hg⟩; have HX1 := Lib.hid (HX0.out.keep hg); have HG1 := Lib.hid (grew_trans HG0.out hg); clear hg C1 HX0 HG0 a0 a1 a2 a3 a4 a5 a6 a7 a8 a9 a10 a11 a12 a13 a14; have b6 := HX1.out.at 6 (.int .i64 nx) rfl; have b7 := HX1.out.at 7 (.slice E1 m1 k1) rfl; have b8 := HX1.out.at 8 (.slice E2 m2 k2) rfl)))
    go_ret
    exact ⟨ret_b HF.out.symm, HG1.out⟩
end Go.Proofs.YtodnllopokoicaaGreat.NumK
namespace Go.Proofs.YtodnllopokoicaaGreat.NumK
open Go.RowKit

/-- Four cells, one behind the other. -/
abbrev set4 (w : World) (g k : Nat) (a b c d : Value) : World := (((w.setCell ⟨g, k, none⟩ a).setCell ⟨g, k + 1, none⟩ b).setCell ⟨g, k + 2, none⟩ c).setCell ⟨g, k + 3, none⟩ d
def turnL (l : List Lg) : List Lg := l.map fun x => (x.1, -(capV x.2))
def moveL (a b : Ac) (n : Int) : List Lg := [(a, -(capV n)), (b, capV n)]
theorem two_cells {w w1 : World} {c1 c2 : Array Value} {t1 t2 : TypeId} (h : Grew ((w.alloc (.cells c1 t1)).alloc (.cells c2 t2)) w1) :
    (∀ i, w1.cell? ⟨w.heap.size, i, none⟩ = c1[i]?) ∧ (∀ i, w1.cell? ⟨w.heap.size + 1, i, none⟩ = c2[i]?) ∧ Grew w w1 := by
  refine ⟨fun i => own_cell (own_back h) i, fun i => ?_, own_back (own_back h)⟩
  have := own_cell h i
  rwa [show (w.alloc (.cells c1 t1)).heap.size = w.heap.size + 1 by simp] at this

end Go.Proofs.YtodnllopokoicaaGreat.NumK
