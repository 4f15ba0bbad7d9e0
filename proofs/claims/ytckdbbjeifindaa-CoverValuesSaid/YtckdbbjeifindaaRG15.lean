/- Books in memory; book.Check, Of, in, Sum, Clear; slices.Clone. -/
import Derived.Test.YtckdbbjeifindaaRG14
import Derived.Lib.Walk
import Derived.Lib.SliceRun
import Derived.Deep.Slices
import Derived.Test.YtckdbbjeifindaaRG13
import Derived.Test.YtckdbbjeifindaaRG5
import Derived.Deep.RegionHeld3
import Derived.Test.YtckdbbjeifindaaRG3
import Derived.Test.YtckdbbjeifindaaRG1
import Derived.Deep.RegionWith
import Derived.Test.YtckdbbjeifindaaRG11
import Derived.ChangeKeysEq
import Derived.Laws.StructEq
import Derived.Test.YtckdbbjeifindaaRG6
namespace Go.Proofs.Ytckdbbjeifindaa.NumK
open Go.RowKit
set_option linter.unusedVariables false

abbrev vBk (next : Int) (A1 A2 : Option Addr) (n1 n2 c1 c2 : Nat) : Value := .agg #[.int .i64 next, .slice A1 n1 c1, .slice A2 n2 c2]
/-- What of a book's slices is known whoever owns them. -/
structure InB (w : World) (b : Bk) (A1 A2 : Option Addr) (n1 n2 c1 c2 : Nat) : Prop where
  t : RowE enTr w A1 n1 b.2.1
  p : RowE enPo w A2 n2 b.2.2
  k1 : A1 = none → c1 = 0
  k2 : A2 = none → c2 = 0
  l1 : n1 ≤ c1 ∧ c1 ≤ 9223372036854775807
  l2 : n2 ≤ c2 ∧ c2 ≤ 9223372036854775807
structure OwnB (w : World) (base : Nat) (b : Bk) (A1 A2 : Option Addr) (c1 c2 : Nat) : Prop where
  t : OwnE enTr w base 153 (.slice A1 b.2.1.length c1) b.2.1
  p : OwnE enPo w base 157 (.slice A2 b.2.2.length c2) b.2.2
  ne : Apart A1 A2
section
variable {w w' : World} {base : Nat} {b : Bk} {A1 A2 : Option Addr} {n1 n2 c1 c2 : Nat}
theorem InB.keep (h : InB w b A1 A2 n1 n2 c1 c2) (g : Grew w w') : InB w' b A1 A2 n1 n2 c1 c2 := ⟨h.t.keep g, h.p.keep g, h.k1, h.k2, h.l1, h.l2⟩
theorem OwnB.keep (h : OwnB w base b A1 A2 c1 c2) (g : Grew w w') : OwnB w' base b A1 A2 c1 c2 := ⟨h.t.keep g, h.p.keep g, h.ne⟩
theorem OwnB.mono {b2 : Nat} (h : OwnB w base b A1 A2 c1 c2) (hb : b2 ≤ base) : OwnB w b2 b A1 A2 c1 c2 := ⟨h.t.mono hb, h.p.mono hb, h.ne⟩
theorem OwnB.in (h : OwnB w base b A1 A2 c1 c2) : InB w b A1 A2 b.2.1.length b.2.2.length c1 c2 :=
  ⟨(own_form h.t).1, (own_form h.p).1, (own_form h.t).2.1, (own_form h.p).2.1, (own_form h.t).2.2, (own_form h.p).2.2⟩
theorem OwnB.nil (w : World) (base : Nat) : OwnB w base bk0 none none 0 0 := ⟨OwnE.nil _ _ _ _, OwnE.nil _ _ _ _, fun x y h => by cases h⟩
end
/-- A book that a call hands back. -/
def BookP (b : Bk) (w : World) (e : Ending) (w' : World) : Prop :=
  ∃ A1 A2 c1 c2, e = .returned (vBk b.1 A1 A2 b.2.1.length b.2.2.length c1 c2) ∧ OwnB w' w.heap.size b A1 A2 c1 c2 ∧ Grew w w'
/-- A book and an error. -/
def BookE (b : Bk) (n : Int) (w : World) (e : Ending) (w' : World) : Prop :=
  ∃ A1 A2 c1 c2, e = .returned (.tuple #[vBk b.1 A1 A2 b.2.1.length b.2.2.length c1 c2, .int .i64 n]) ∧ OwnB w' w.heap.size b A1 A2 c1 c2 ∧ Grew w w'
/-- A book, a number and an error. -/
def BookN (b : Bk) (no n : Int) (w : World) (e : Ending) (w' : World) : Prop :=
  ∃ A1 A2 c1 c2, e = .returned (.tuple #[vBk b.1 A1 A2 b.2.1.length b.2.2.length c1 c2, .int .i64 no, .int .i64 n]) ∧ OwnB w' w.heap.size b A1 A2 c1 c2 ∧ Grew w w'

def chkB (b : Bk) : Int := if rightB b then 0 else 14
/-! ### slices.Clone -/
end Go.Proofs.Ytckdbbjeifindaa.NumK
namespace Go.Proofs.Ytckdbbjeifindaa.NumK
open Go.RowKit
set_option linter.unusedVariables false

set_option maxRecDepth 100000 in
set_option maxHeartbeats 1000000 in
theorem heavy_any (nx : Int) (A1 A2 : Option Addr) (n1 n2 c1 c2 : Nat) (w : World) :
    Calls Try.prog 33 #[vBk nx A1 A2 n1 n2 c1 c2] w fun e w' => e = .returned (.bool (decide (300 < n1) || decide (300 < n2))) ∧ Grew w w' := by
  dsimp only [vBk]
  go_enter Try.func33, Try.ntmps33
  by_cases h1 : 300 < n1
  · have k1 : (300 : Int) < (n1 : Int) := by omega
    go_wp2
    go_ret
    exact ⟨by simp [h1], grew_alloc _ _ _⟩
  · have k1 : ¬ (300 : Int) < (n1 : Int) := by omega
    by_cases h2 : 300 < n2
    · have k2 : (300 : Int) < (n2 : Int) := by omega
      go_wp2
      go_ret
      exact ⟨by simp, grew_alloc _ _ _⟩
    · have k2 : ¬ (300 : Int) < (n2 : Int) := by omega
      go_wp2
      go_ret
      exact ⟨by simp, grew_alloc _ _ _⟩
end Go.Proofs.Ytckdbbjeifindaa.NumK
namespace Go.Proofs.Ytckdbbjeifindaa.NumK
open Go.RowKit
set_option linter.unusedVariables false

/-- A state as a value: its clock, roll, book, ledger, and four rows. -/
abbrev stV (t1 t2 t3 nx last : Int) (A1 A2 A3 E1 E2 L P Q1 Q2 Q3 : Option Addr) (n1 n2 n3 c1 c2 c3 m1 m2 k1 k2 nl cl np cp u1 v1 u2 v2 u3 v3 : Nat) : Value :=
  .agg #[.int .i64 t1, .int .i64 t2, .int .i64 t3, .slice A1 n1 c1, .slice A2 n2 c2, .slice A3 n3 c3, .int .i64 nx, .slice E1 m1 k1, .slice E2 m2 k2, .int .i64 last, .slice L nl cl, .slice P np cp, .slice Q1 u1 v1, .slice Q2 u2 v2, .slice Q3 u3 v3]
def heavyS (n1 n2 n3 m1 m2 nl np u1 u2 u3 : Nat) : Bool :=
  heavyR n1 n2 n3 || ((decide (300 < m1) || decide (300 < m2)) || (decide (300 < nl) || (decide (300 < np) || (decide (300 < u1) || (decide (300 < u2) || decide (300 < u3))))))
theorem heavyS_no {n1 n2 n3 m1 m2 nl np u1 u2 u3 : Nat} (h : heavyS n1 n2 n3 m1 m2 nl np u1 u2 u3 = false) : (n1 ≤ 100 ∧ n2 ≤ 100 ∧ n3 ≤ 100) ∧ (m1 ≤ 300 ∧ m2 ≤ 300) ∧ nl ≤ 300 ∧ np ≤ 300 ∧ u1 ≤ 300 ∧ u2 ≤ 300 ∧ u3 ≤ 300 := by
  unfold heavyS heavyR at h
  simp only [Bool.or_eq_false_iff, decide_eq_false_iff_not] at h
  omega

set_option maxRecDepth 100000 in
set_option maxHeartbeats 8000000 in
theorem heavy16_any (t1 t2 t3 nx last : Int) (A1 A2 A3 E1 E2 L P Q1 Q2 Q3 : Option Addr) (n1 n2 n3 c1 c2 c3 m1 m2 k1 k2 nl cl np cp u1 v1 u2 v2 u3 v3 : Nat) (w : World) :
    Calls Try.prog 18 #[stV t1 t2 t3 nx last A1 A2 A3 E1 E2 L P Q1 Q2 Q3 n1 n2 n3 c1 c2 c3 m1 m2 k1 k2 nl cl np cp u1 v1 u2 v2 u3 v3] w fun e w' => e = .returned (.bool (heavyS n1 n2 n3 m1 m2 nl np u1 u2 u3)) ∧ Grew w w' := by
  have C1 := fun w => heavy11_any A1 A2 A3 n1 n2 n3 c1 c2 c3 w
  have C2 := fun w => heavy_any nx E1 E2 m1 m2 k1 k2 w
  have HV : Hid (heavyS n1 n2 n3 m1 m2 nl np u1 u2 u3 = (heavyR n1 n2 n3 || ((decide (300 < m1) || decide (300 < m2)) || (decide (300 < nl) || (decide (300 < np) || (decide (300 < u1) || (decide (300 < u2) || decide (300 < u3)))))))) := rfl
  generalize heavyS n1 n2 n3 m1 m2 nl np u1 u2 u3 = V at *
  generalize heavyR n1 n2 n3 = R1 at *
  generalize (decide (300 < m1) || decide (300 < m2)) = R2 at *
  dsimp only [rlV, vBk, stV] at *
  have HX0 : Hid (OwnC (w.alloc (.cells #[.int .i64 t1, .int .i64 t2, .int .i64 t3, .slice A1 n1 c1, .slice A2 n2 c2, .slice A3 n3 c3, .int .i64 nx, .slice E1 m1 k1, .slice E2 m2 k2, .int .i64 last, .slice L nl cl, .slice P np cp, .slice Q1 u1 v1, .slice Q2 u2 v2, .slice Q3 u3 v3] 60)) w.heap.size [.int .i64 t1, .int .i64 t2, .int .i64 t3, .slice A1 n1 c1, .slice A2 n2 c2, .slice A3 n3 c3, .int .i64 nx, .slice E1 m1 k1, .slice E2 m2 k2, .int .i64 last, .slice L nl cl, .slice P np cp, .slice Q1 u1 v1, .slice Q2 u2 v2, .slice Q3 u3 v3]) := OwnC.new w [.int .i64 t1, .int .i64 t2, .int .i64 t3, .slice A1 n1 c1, .slice A2 n2 c2, .slice A3 n3 c3, .int .i64 nx, .slice E1 m1 k1, .slice E2 m2 k2, .int .i64 last, .slice L nl cl, .slice P np cp, .slice Q1 u1 v1, .slice Q2 u2 v2, .slice Q3 u3 v3] _ _ rfl
  have HG0 : Hid (Grew w (w.alloc (.cells #[.int .i64 t1, .int .i64 t2, .int .i64 t3, .slice A1 n1 c1, .slice A2 n2 c2, .slice A3 n3 c3, .int .i64 nx, .slice E1 m1 k1, .slice E2 m2 k2, .int .i64 last, .slice L nl cl, .slice P np cp, .slice Q1 u1 v1, .slice Q2 u2 v2, .slice Q3 u3 v3] 60))) := grew_alloc _ _ _
  go_enter Try.func18, Try.ntmps18
  go_upto_region 1 with (fail)
  generalize (w.alloc (.cells #[.int .i64 t1, .int .i64 t2, .int .i64 t3, .slice A1 n1 c1, .slice A2 n2 c2, .slice A3 n3 c3, .int .i64 nx, .slice E1 m1 k1, .slice E2 m2 k2, .int .i64 last, .slice L nl cl, .slice P np cp, .slice Q1 u1 v1, .slice Q2 u2 v2, .slice Q3 u3 v3] 60)) = w0 at *
  generalize w.heap.size = N at *
  have a0 := HX0.out.at 0 (.int .i64 t1) rfl; have a1 := HX0.out.at 1 (.int .i64 t2) rfl; have a2 := HX0.out.at 2 (.int .i64 t3) rfl; have a3 := HX0.out.at 3 (.slice A1 n1 c1) rfl; have a4 := HX0.out.at 4 (.slice A2 n2 c2) rfl; have a5 := HX0.out.at 5 (.slice A3 n3 c3) rfl; have a6 := HX0.out.at 6 (.int .i64 nx) rfl; have a7 := HX0.out.at 7 (.slice E1 m1 k1) rfl; have a8 := HX0.out.at 8 (.slice E2 m2 k2) rfl; have a9 := HX0.out.at 9 (.int .i64 last) rfl; have a10 := HX0.out.at 10 (.slice L nl cl) rfl; have a11 := HX0.out.at 11 (.slice P np cp) rfl; have a12 := HX0.out.at 12 (.slice Q1 u1 v1) rfl; have a13 := HX0.out.at 13 (.slice Q2 u2 v2) rfl; have a14 := HX0.out.at 14 (.slice Q3 u3 v3) rfl
  cases R1
  · cases R2
    · by_cases h0 : 300 < nl
      · have HF : Hid (V = true) := by show _ = _; rw [HV.out, decide_eq_true h0]; first | done | simp
        have j0 : (nl : Int) > 300 := by omega
        clear HV
        go_wp2_with (first
          | (go_at_call 32; ((with_reducible refine (C1 _).mono ?_); rintro e w1 ⟨rfl, hg⟩; have HX1 := Lib.hid (HX0.out.keep hg); have HG1 := Lib.hid (grew_trans HG0.out hg); clear hg C1 HX0 HG0 a0 a1 a2 a3 a4 a5 a6 a7 a8 a9 a10 a11 a12 a13 a14; have b6 := HX1.out.at 6 (.int .i64 nx) rfl; have b7 := HX1.out.at 7 (.slice E1 m1 k1) rfl; have b8 := HX1.out.at 8 (.slice E2 m2 k2) rfl))
          | (go_at_call 33; ((with_reducible refine (C2 _).mono ?_); rintro e w2 ⟨rfl, hg⟩; have HX2 := Lib.hid (HX1.out.keep hg); have HG2 := Lib.hid (grew_trans HG1.out hg); clear hg C2 HX1 HG1 b6 b7 b8; have d10 := HX2.out.at 10 (.slice L nl cl) rfl; have d11 := HX2.out.at 11 (.slice P np cp) rfl; have d12 := HX2.out.at 12 (.slice Q1 u1 v1) rfl; have d13 := HX2.out.at 13 (.slice Q2 u2 v2) rfl; have d14 := HX2.out.at 14 (.slice Q3 u3 v3) rfl)))
        go_ret
        exact ⟨ret_b HF.out.symm, HG2.out⟩
      · by_cases h1 : 300 < np
        · have HF : Hid (V = true) := by show _ = _; rw [HV.out, decide_eq_false h0, decide_eq_true h1]; first | done | simp
          have j1 : (np : Int) > 300 := by omega
          have j0 : ¬ (nl : Int) > 300 := (by omega)
          clear HV
          go_wp2_with (first
            | (go_at_call 32; ((with_reducible refine (C1 _).mono ?_); rintro e w1 ⟨rfl, hg⟩; have HX1 := Lib.hid (HX0.out.keep hg); have HG1 := Lib.hid (grew_trans HG0.out hg); clear hg C1 HX0 HG0 a0 a1 a2 a3 a4 a5 a6 a7 a8 a9 a10 a11 a12 a13 a14; have b6 := HX1.out.at 6 (.int .i64 nx) rfl; have b7 := HX1.out.at 7 (.slice E1 m1 k1) rfl; have b8 := HX1.out.at 8 (.slice E2 m2 k2) rfl))
            | (go_at_call 33; ((with_reducible refine (C2 _).mono ?_); rintro e w2 ⟨rfl, hg⟩; have HX2 := Lib.hid (HX1.out.keep hg); have HG2 := Lib.hid (grew_trans HG1.out hg); clear hg C2 HX1 HG1 b6 b7 b8; have d10 := HX2.out.at 10 (.slice L nl cl) rfl; have d11 := HX2.out.at 11 (.slice P np cp) rfl; have d12 := HX2.out.at 12 (.slice Q1 u1 v1) rfl; have d13 := HX2.out.at 13 (.slice Q2 u2 v2) rfl; have d14 := HX2.out.at 14 (.slice Q3 u3 v3) rfl)))
          go_ret
          exact ⟨ret_b HF.out.symm, HG2.out⟩
        · by_cases h2 : 300 < u1
          · have HF : Hid (V = true) := by show _ = _; rw [HV.out, decide_eq_false h0, decide_eq_false h1, decide_eq_true h2]; first | done | simp
            have j2 : (u1 : Int) > 300 := by omega
            have j0 : ¬ (nl : Int) > 300 := (by omega); have j1 : ¬ (np : Int) > 300 := (by omega)
            clear HV
            go_wp2_with (first
              | (go_at_call 32; ((with_reducible refine (C1 _).mono ?_); rintro e w1 ⟨rfl, hg⟩; have HX1 := Lib.hid (HX0.out.keep hg); have HG1 := Lib.hid (grew_trans HG0.out hg); clear hg C1 HX0 HG0 a0 a1 a2 a3 a4 a5 a6 a7 a8 a9 a10 a11 a12 a13 a14; have b6 := HX1.out.at 6 (.int .i64 nx) rfl; have b7 := HX1.out.at 7 (.slice E1 m1 k1) rfl; have b8 := HX1.out.at 8 (.slice E2 m2 k2) rfl))
              | (go_at_call 33; ((with_reducible refine (C2 _).mono ?_); rintro e w2 ⟨rfl, hg⟩; have HX2 := Lib.hid (HX1.out.keep hg); have HG2 := Lib.hid (grew_trans HG1.out hg); clear hg C2 HX1 HG1 b6 b7 b8; have d10 := HX2.out.at 10 (.slice L nl cl) rfl; have d11 := HX2.out.at 11 (.slice P np cp) rfl; have d12 := HX2.out.at 12 (.slice Q1 u1 v1) rfl; have d13 := HX2.out.at 13 (.slice Q2 u2 v2) rfl; have d14 := HX2.out.at 14 (.slice Q3 u3 v3) rfl)))
            go_ret
            exact ⟨ret_b HF.out.symm, HG2.out⟩
          · by_cases h3 : 300 < u2
            · have HF : Hid (V = true) := by show _ = _; rw [HV.out, decide_eq_false h0, decide_eq_false h1, decide_eq_false h2, decide_eq_true h3]; first | done | simp
              have j3 : (u2 : Int) > 300 := by omega
              have j0 : ¬ (nl : Int) > 300 := (by omega); have j1 : ¬ (np : Int) > 300 := (by omega); have j2 : ¬ (u1 : Int) > 300 := (by omega)
              clear HV
              go_wp2_with (first
                | (go_at_call 32; ((with_reducible refine (C1 _).mono ?_); rintro e w1 ⟨rfl, hg⟩; have HX1 := Lib.hid (HX0.out.keep hg); have HG1 := Lib.hid (grew_trans HG0.out hg); clear hg C1 HX0 HG0 a0 a1 a2 a3 a4 a5 a6 a7 a8 a9 a10 a11 a12 a13 a14; have b6 := HX1.out.at 6 (.int .i64 nx) rfl; have b7 := HX1.out.at 7 (.slice E1 m1 k1) rfl; have b8 := HX1.out.at 8 (.slice E2 m2 k2) rfl))
                | (go_at_call 33; ((with_reducible refine (C2 _).mono ?_); rintro e w2 ⟨rfl, hg⟩; have HX2 := Lib.hid (HX1.out.keep hg); have HG2 := Lib.hid (grew_trans HG1.out hg); clear hg C2 HX1 HG1 b6 b7 b8; have d10 := HX2.out.at 10 (.slice L nl cl) rfl; have d11 := HX2.out.at 11 (.slice P np cp) rfl; have d12 := HX2.out.at 12 (.slice Q1 u1 v1) rfl; have d13 := HX2.out.at 13 (.slice Q2 u2 v2) rfl; have d14 := HX2.out.at 14 (.slice Q3 u3 v3) rfl)))
              go_ret
              exact ⟨ret_b HF.out.symm, HG2.out⟩
            · by_cases h4 : 300 < u3
              · have HF : Hid (V = true) := by show _ = _; rw [HV.out, decide_eq_false h0, decide_eq_false h1, decide_eq_false h2, decide_eq_false h3, decide_eq_true h4]; first | done | simp
                have j4 : (u3 : Int) > 300 := by omega
                have j0 : ¬ (nl : Int) > 300 := (by omega); have j1 : ¬ (np : Int) > 300 := (by omega); have j2 : ¬ (u1 : Int) > 300 := (by omega); have j3 : ¬ (u2 : Int) > 300 := (by omega)
                clear HV
                go_wp2_with (first
                  | (go_at_call 32; ((with_reducible refine (C1 _).mono ?_); rintro e w1 ⟨rfl, hg⟩; have HX1 := Lib.hid (HX0.out.keep hg); have HG1 := Lib.hid (grew_trans HG0.out hg); clear hg C1 HX0 HG0 a0 a1 a2 a3 a4 a5 a6 a7 a8 a9 a10 a11 a12 a13 a14; have b6 := HX1.out.at 6 (.int .i64 nx) rfl; have b7 := HX1.out.at 7 (.slice E1 m1 k1) rfl; have b8 := HX1.out.at 8 (.slice E2 m2 k2) rfl))
                  | (go_at_call 33; ((with_reducible refine (C2 _).mono ?_); rintro e w2 ⟨rfl, hg⟩; have HX2 := Lib.hid (HX1.out.keep hg); have HG2 := Lib.hid (grew_trans HG1.out hg); clear hg C2 HX1 HG1 b6 b7 b8; have d10 := HX2.out.at 10 (.slice L nl cl) rfl; have d11 := HX2.out.at 11 (.slice P np cp) rfl; have d12 := HX2.out.at 12 (.slice Q1 u1 v1) rfl; have d13 := HX2.out.at 13 (.slice Q2 u2 v2) rfl; have d14 := HX2.out.at 14 (.slice Q3 u3 v3) rfl)))
                go_ret
                exact ⟨ret_b HF.out.symm, HG2.out⟩
              · have HF : Hid (V = false) := by show _ = _; rw [HV.out, decide_eq_false h0, decide_eq_false h1, decide_eq_false h2, decide_eq_false h3, decide_eq_false h4]; rfl
                have j0 : ¬ (nl : Int) > 300 := (by omega); have j1 : ¬ (np : Int) > 300 := (by omega); have j2 : ¬ (u1 : Int) > 300 := (by omega); have j3 : ¬ (u2 : Int) > 300 := (by omega); have j4 : ¬ (u3 : Int) > 300 := (by omega)
                clear HV
                go_wp2_with (first
                  | (go_at_call 32; ((with_reducible refine (C1 _).mono ?_); rintro e w1 ⟨rfl, hg⟩; have HX1 := Lib.hid (HX0.out.keep hg); have HG1 := Lib.hid (grew_trans HG0.out hg); clear hg C1 HX0 HG0 a0 a1 a2 a3 a4 a5 a6 a7 a8 a9 a10 a11 a12 a13 a14; have b6 := HX1.out.at 6 (.int .i64 nx) rfl; have b7 := HX1.out.at 7 (.slice E1 m1 k1) rfl; have b8 := HX1.out.at 8 (.slice E2 m2 k2) rfl))
                  | (go_at_call 33; ((with_reducible refine (C2 _).mono ?_); rintro e w2 ⟨rfl, hg⟩; have HX2 := Lib.hid (HX1.out.keep hg); have HG2 := Lib.hid (grew_trans HG1.out hg); clear hg C2 HX1 HG1 b6 b7 b8; have d10 := HX2.out.at 10 (.slice L nl cl) rfl; have d11 := HX2.out.at 11 (.slice P np cp) rfl; have d12 := HX2.out.at 12 (.slice Q1 u1 v1) rfl; have d13 := HX2.out.at 13 (.slice Q2 u2 v2) rfl; have d14 := HX2.out.at 14 (.slice Q3 u3 v3) rfl)))
                go_ret
                exact ⟨ret_b (by rw [HF.out]; simp only [Bool.or_eq_false_iff, decide_eq_false_iff_not]; omega), HG2.out⟩
    · have HF : Hid (V = true) := by show _ = _; rw [HV.out]; rfl
      clear HV
      go_wp2_with (first
        | (go_at_call 32; ((with_reducible refine (C1 _).mono ?_); rintro e w1 ⟨rfl, hg⟩; have HX1 := Lib.hid (HX0.out.keep hg); have HG1 := Lib.hid (grew_trans HG0.out hg); clear hg C1 HX0 HG0 a0 a1 a2 a3 a4 a5 a6 a7 a8 a9 a10 a11 a12 a13 a14; have b6 := HX1.out.at 6 (.int .i64 nx) rfl; have b7 := HX1.out.at 7 (.slice E1 m1 k1) rfl; have b8 := HX1.out.at 8 (.slice E2 m2 k2) rfl))
        | (go_at_call 33; ((with_reducible refine (C2 _).mono ?_); rintro e w2 ⟨rfl, hg⟩; have HX2 := Lib.hid (HX1.out.keep hg); have HG2 := Lib.hid (grew_trans HG1.out hg); clear hg C2 HX1 HG1 b6 b7 b8; have d10 := HX2.out.at 10 (.slice L nl cl) rfl; have d11 := HX2.out.at 11 (.slice P np cp) rfl; have d12 := HX2.out.at 12 (.slice Q1 u1 v1) rfl; have d13 := HX2.out.at 13 (.slice Q2 u2 v2) rfl; have d14 := HX2.out.at 14 (.slice Q3 u3 v3) rfl)))
      go_ret
      exact ⟨ret_b HF.out.symm, HG2.out⟩
  · have HF : Hid (V = true) := by show _ = _; rw [HV.out]; rfl
    clear HV
    go_wp2_with (first
      | (go_at_call 32; ((with_reducible refine (C1 _).mono ?_); rintro e w1 ⟨rfl, hg⟩; have HX1 := Lib.hid (HX0.out.keep hg); have HG1 := Lib.hid (grew_trans HG0.out hg); clear hg C1 HX0 HG0 a0 a1 a2 a3 a4 a5 a6 a7 a8 a9 a10 a11 a12 a13 a14; have b6 := HX1.out.at 6 (.int .i64 nx) rfl; have b7 := HX1.out.at 7 (.slice E1 m1 k1) rfl; have b8 := HX1.out.at 8 (.slice E2 m2 k2) rfl)))
    go_ret
    exact ⟨ret_b HF.out.symm, HG1.out⟩
end Go.Proofs.Ytckdbbjeifindaa.NumK
namespace Go.Proofs.Ytckdbbjeifindaa.NumK
open Go.RowKit Go.ChangeShapes Go.WideShapes
set_option linter.unusedVariables false

abbrev spTrA : Sp (Int × Int × Int × Int × Int × Int × Bool) := spPair spI (spPair spI (spPair spI (spPair spI (spPair spI (spPair spI spBool)))))
def toTr (x : Int × Int × Int × Int × Int × Int × Bool) : Tr := ((x.1, x.2.1, x.2.2.1, x.2.2.2.1, x.2.2.2.2.1, x.2.2.2.2.2.1), x.2.2.2.2.2.2)
def spTr : Sp Tr := spMap toTr spTrA
theorem opens_bool1 : Opens Try.prog 4 spBool := opens_bool Try.underlying4 (by kernel_rfl)
theorem opens_trade : Opens Try.prog 153 spTr :=
  opens_map toTr (opens_struct Try.underlying153 (by kernel_rfl) (Fs.cons _ _ 0 rfl opens_i (Fs.cons _ _ 1 rfl opens_i (Fs.cons _ _ 2 rfl opens_i (Fs.cons _ _ 3 rfl opens_i (Fs.cons _ _ 4 rfl opens_i (Fs.cons _ _ 5 rfl opens_i (Fs.last _ 6 rfl opens_bool1))))))))
theorem tr_rd {w : World} {cs : List Value} {a : Tr} (h : spTr.rd w cs a) : cs = enTr.cs a := by
  obtain ⟨x, ⟨c1, d1, rfl, ⟨rfl, _⟩, c2, d2, rfl, ⟨rfl, _⟩, c3, d3, rfl, ⟨rfl, _⟩, c4, d4, rfl, ⟨rfl, _⟩, c5, d5, rfl, ⟨rfl, _⟩, c6, d6, rfl, ⟨rfl, _⟩, hb⟩, rfl⟩ := h
  have hb : d6 = [.bool x.2.2.2.2.2.2] := hb
  subst hb
  rfl
theorem trs_of {w : World} {A : Option Addr} {n : Nat} {l : List Tr} (h : Row spTr w A n l) : RowE enTr w A n l := rowE_of rfl (fun _ _ _ => tr_rd) h

abbrev spKey : Sp (Int × Int) := spPair spI spI
abbrev spPoA : Sp ((Int × Int) × Int × Int) := spPair spKey (spPair spI spI)
def toPo (x : (Int × Int) × Int × Int) : Po := (x.1.1, x.1.2, x.2.1, x.2.2)
def spPo : Sp Po := spMap toPo spPoA
theorem opens_key : Opens Try.prog 155 spKey := opens_struct Try.underlying155 (by kernel_rfl) (Fs.cons _ _ 0 rfl opens_i (Fs.last _ 1 rfl opens_i))
theorem opens_pos : Opens Try.prog 157 spPo :=
  opens_map toPo (opens_struct Try.underlying157 (by kernel_rfl) (Fs.cons _ _ 0 rfl opens_key (Fs.cons _ _ 2 rfl opens_i (Fs.last _ 3 rfl opens_i))))
theorem po_rd {w : World} {cs : List Value} {a : Po} (h : spPo.rd w cs a) : cs = enPo.cs a := by
  obtain ⟨x, ⟨c0, d0, rfl, ⟨c1, d1, rfl, ⟨rfl, _⟩, rfl, _⟩, c3, d3, rfl, ⟨rfl, _⟩, rfl, _⟩, rfl⟩ := h
  rfl
theorem poss_of {w : World} {A : Option Addr} {n : Nat} {l : List Po} (h : Row spPo w A n l) : RowE enPo w A n l := rowE_of rfl (fun _ _ _ => po_rd) h
theorem opens_poss : Opens Try.prog 50 (spSlice spPo) := opens_slice Try.underlying50 (by kernel_rfl) opens_pos (by decide)
theorem opens_trades : Opens Try.prog 49 (spSlice spTr) := opens_slice Try.underlying49 (by kernel_rfl) opens_trade (by decide)

abbrev spBk : Sp Bk := spPair spI (spPair (spSlice spTr) (spSlice spPo))
theorem opens_book : Opens Try.prog 52 spBk :=
  opens_struct Try.underlying52 (by kernel_rfl) (Fs.cons _ _ 0 rfl opens_i (Fs.cons _ _ 1 rfl opens_trades (Fs.last _ 2 rfl opens_poss)))
end Go.Proofs.Ytckdbbjeifindaa.NumK
namespace Go.Proofs.Ytckdbbjeifindaa.NumK
open Go.RowKit Go.ChangeShapes Go.WideShapes
set_option linter.unusedVariables false

abbrev spPg : Sp Pg := spPair spI (spPair spI spI)
theorem opens_pledge : Opens Try.prog 37 spPg :=
  opens_struct Try.underlying37 (by kernel_rfl) (Fs.cons _ _ 0 rfl opens_i (Fs.cons _ _ 1 rfl opens_i (Fs.last _ 2 rfl opens_i)))
theorem opens_pledges : Opens Try.prog 24 (spSlice spPg) := opens_slice Try.underlying24 (by kernel_rfl) opens_pledge (by decide)
theorem pg_rd {w : World} {cs : List Value} {a : Pg} (h : spPg.rd w cs a) : cs = enPg.cs a := by
  obtain ⟨c1, d1, rfl, ⟨rfl, _⟩, c2, d2, rfl, ⟨rfl, _⟩, rfl, _⟩ := h
  rfl
theorem pgs_of {w : World} {A : Option Addr} {n : Nat} {l : List Pg} (h : Row spPg w A n l) : RowE enPg w A n l := rowE_of rfl (fun _ _ _ => pg_rd) h

/-! ### states -/
abbrev spBal : Sp Lg := spPair spAcct spI
theorem opens_bal : Opens Try.prog 116 spBal :=
  opens_struct Try.underlying116 (by kernel_rfl) (Fs.cons _ _ 0 rfl opens_acct (Fs.last _ 3 rfl opens_i))
theorem opens_bals : Opens Try.prog 53 (spSlice spBal) := opens_slice Try.underlying53 (by kernel_rfl) opens_bal (by decide)
theorem bal_rd {w : World} {cs : List Value} {a : Lg} (h : spBal.rd w cs a) : cs = enLg.cs a := by
  obtain ⟨c1, c2, rfl, ⟨c3, c4, rfl, ⟨rfl, _⟩, c5, c6, rfl, ⟨rfl, _⟩, rfl, _⟩, rfl, _⟩ := h
  rfl
theorem bals_of {w : World} {A : Option Addr} {n : Nat} {l : List Lg} (h : Row spBal w A n l) : RowE enLg w A n l := rowE_of rfl (fun _ _ _ => bal_rd) h
abbrev spLgr : Sp (Int × List Lg) := spPair spI (spSlice spBal)
theorem opens_ledger : Opens Try.prog 55 spLgr := opens_struct Try.underlying55 (by kernel_rfl) (Fs.cons _ _ 0 rfl opens_i (Fs.last _ 1 rfl opens_bals))
abbrev spClock : Sp (Int × Int × Int) := spPair spI (spPair spI spI)
theorem opens_clock : Opens Try.prog 43 spClock :=
  opens_struct Try.underlying43 (by kernel_rfl) (Fs.cons _ _ 0 rfl opens_i (Fs.cons _ _ 1 rfl opens_i (Fs.last _ 2 rfl opens_i)))
abbrev spDu3 : Sp (Int × Int × Int) := spPair spI (spPair spI spI)
theorem opens_due : Opens Try.prog 159 spDu3 :=
  opens_struct Try.underlying159 (by kernel_rfl) (Fs.cons _ _ 0 rfl opens_i (Fs.cons _ _ 1 rfl opens_i (Fs.last _ 2 rfl opens_i)))
theorem opens_dues : Opens Try.prog 164 (spSlice spDu3) := opens_slice Try.underlying164 (by kernel_rfl) opens_due (by decide)
abbrev spCa : Sp ((Int × Int × Int) × Int) := spPair spDu3 spI
theorem opens_call : Opens Try.prog 161 spCa := opens_struct Try.underlying161 (by kernel_rfl) (Fs.cons _ _ 0 rfl opens_due (Fs.last _ 3 rfl opens_i))
theorem opens_calls : Opens Try.prog 56 (spSlice spCa) := opens_slice Try.underlying56 (by kernel_rfl) opens_call (by decide)
abbrev spBd : Sp ((Int × Int) × Int × Int × Int) := spPair spKey (spPair spI (spPair spI spI))
theorem opens_bid : Opens Try.prog 163 spBd :=
  opens_struct Try.underlying163 (by kernel_rfl) (Fs.cons _ _ 0 rfl opens_key (Fs.cons _ _ 2 rfl opens_i (Fs.cons _ _ 3 rfl opens_i (Fs.last _ 4 rfl opens_i))))
theorem opens_bids : Opens Try.prog 57 (spSlice spBd) := opens_slice Try.underlying57 (by kernel_rfl) opens_bid (by decide)
abbrev spFa : Sp (Int × Int × List Int × Int) := spPair spI (spPair spI (spPair (spArr 5 spI) spI))
theorem opens_five : Opens Try.prog 173 (spArr 5 spI) := opens_arr Try.underlying173 (by kernel_rfl) opens_i
theorem opens_fall : Opens Try.prog 175 spFa :=
  opens_struct Try.underlying175 (by kernel_rfl) (Fs.cons _ _ 0 rfl opens_i (Fs.cons _ _ 1 rfl opens_i (Fs.cons _ _ 2 rfl opens_five (Fs.last _ 7 rfl opens_i))))
theorem opens_falls : Opens Try.prog 165 (spSlice spFa) := opens_slice Try.underlying165 (by kernel_rfl) opens_fall (by decide)
theorem opens_errno : Opens Try.prog 25 spI := opens_int Try.underlying25 (by kernel_rfl)
abbrev spRe : Sp (Int × Int × Int × List (Int × Int × Int) × List (Int × Int × List Int × Int)) := spPair spI (spPair spI (spPair spI (spPair (spSlice spDu3) (spSlice spFa))))
theorem opens_reply : Opens Try.prog 167 spRe :=
  opens_struct Try.underlying167 (by kernel_rfl) (Fs.cons _ _ 0 rfl opens_errno (Fs.cons _ _ 1 rfl opens_i (Fs.cons _ _ 2 rfl opens_i (Fs.cons _ _ 3 rfl opens_dues (Fs.last _ 4 rfl opens_falls)))))
abbrev spSe : Sp (Int × Int × Int × Int × Int × List (Int × Int × Int) × List (Int × Int × List Int × Int)) := spPair spI (spPair spI spRe)
theorem opens_seat : Opens Try.prog 169 spSe :=
  opens_struct Try.underlying169 (by kernel_rfl) (Fs.cons _ _ 0 rfl opens_i (Fs.cons _ _ 1 rfl opens_i (Fs.last _ 2 rfl opens_reply)))
theorem opens_seats : Opens Try.prog 58 (spSlice spSe) := opens_slice Try.underlying58 (by kernel_rfl) opens_seat (by decide)
abbrev spSt := spPair spClock (spPair spRl (spPair spBk (spPair spLgr (spPair (spSlice spPg) (spPair (spSlice spCa) (spPair (spSlice spBd) (spSlice spSe)))))))
theorem opens_state : Opens Try.prog 60 spSt :=
  opens_struct Try.underlying60 (by kernel_rfl) (Fs.cons _ _ 0 rfl opens_clock (Fs.cons _ _ 3 rfl opens_roll (Fs.cons _ _ 6 rfl opens_book (Fs.cons _ _ 9 rfl opens_ledger (Fs.cons _ _ 11 rfl opens_pledges (Fs.cons _ _ 12 rfl opens_calls (Fs.cons _ _ 13 rfl opens_bids (Fs.last _ 14 rfl opens_seats))))))))
/-- What of a state's rows is known. -/
structure InS (w : World) (s : (Int × Int × Int) × Rl × Bk × (Int × List Lg) × List Pg × List ((Int × Int × Int) × Int) × List ((Int × Int) × Int × Int × Int) × List (Int × Int × Int × Int × Int × List (Int × Int × Int) × List (Int × Int × List Int × Int)))
    (A1 A2 A3 E1 E2 L P Q1 Q2 Q3 : Option Addr) (n1 n2 n3 c1 c2 c3 m1 m2 k1 k2 nl cl np cp u1 v1 u2 v2 u3 v3 : Nat) : Prop where
  r : In3 w s.2.1 A1 A2 A3 n1 n2 n3 c1 c2 c3
  b : InB w s.2.2.1 E1 E2 m1 m2 k1 k2
  l : RowE enLg w L nl s.2.2.2.1.2
  lk : L = none → cl = 0
  p : RowE enPg w P np s.2.2.2.2.1
  pk : P = none → cp = 0
  pl : np ≤ cp ∧ cp ≤ 9223372036854775807
  q1 : Row spCa w Q1 u1 s.2.2.2.2.2.1
  q1k : Q1 = none → v1 = 0
  q2 : Row spBd w Q2 u2 s.2.2.2.2.2.2.1
  q2k : Q2 = none → v2 = 0
  q3 : Row spSe w Q3 u3 s.2.2.2.2.2.2.2
  q3k : Q3 = none → v3 = 0
theorem state_of {w : World} {cs : Array Value} {s} (h : spSt.rd w cs.toList s) : ∃ A1 A2 A3 E1 E2 L P Q1 Q2 Q3 n1 n2 n3 c1 c2 c3 m1 m2 k1 k2 nl cl np cp u1 v1 u2 v2 u3 v3,
    Value.agg cs = stV s.1.1 s.1.2.1 s.1.2.2 s.2.2.1.1 s.2.2.2.1.1 A1 A2 A3 E1 E2 L P Q1 Q2 Q3 n1 n2 n3 c1 c2 c3 m1 m2 k1 k2 nl cl np cp u1 v1 u2 v2 u3 v3 ∧ InS w s A1 A2 A3 E1 E2 L P Q1 Q2 Q3 n1 n2 n3 c1 c2 c3 m1 m2 k1 k2 nl cl np cp u1 v1 u2 v2 u3 v3 := by
  obtain ⟨x0, y0, e, ⟨g1, g2, rfl, ⟨rfl, _⟩, g3, g4, rfl, ⟨rfl, _⟩, rfl, _⟩, x1, y1, rfl, ⟨x2, y2, rfl, ⟨A1, n1, c1, rfl, hr1, hk1, hl1, hm1⟩, x3, y3, rfl, ⟨A2, n2, c2, rfl, hr2, hk2, hl2, hm2⟩, A3, n3, c3, rfl, hr3, hk3, hl3, hm3⟩,
    x4, y4, rfl, ⟨x5, y5, rfl, ⟨rfl, _⟩, x6, y6, rfl, ⟨E1, m1, k1, rfl, hr4, hk4, hl4, hm4⟩, E2, m2, k2, rfl, hr5, hk5, hl5, hm5⟩,
    x7, y7, rfl, ⟨x8, y8, rfl, ⟨rfl, _⟩, L, nl, cl, rfl, hr6, hk6, hl6, hm6⟩, x9, y9, rfl, ⟨P, np, cp, rfl, hr7, hk7, hl7, hm7⟩, xa, ya, rfl, ⟨Q1, u1, v1, rfl, hr8, hk8, hl8, hm8⟩, xb, yb, rfl, ⟨Q2, u2, v2, rfl, hr9, hk9, hl9, hm9⟩, Q3, u3, v3, rfl, hra, hka, hla, hma⟩ := h
  unfold maxLen at hm1 hm2 hm3 hm4 hm5 hm7
  refine ⟨A1, A2, A3, E1, E2, L, P, Q1, Q2, Q3, n1, n2, n3, c1, c2, c3, m1, m2, k1, k2, nl, cl, np, cp, u1, v1, u2, v2, u3, v3, ?_, ⟨⟨⟨rowE_of rfl (fun _ _ _ => mb_rd) hr1, rowE_of rfl (fun _ _ _ => in_rd) hr2, rowE_of rfl (fun _ _ _ => as_rd) hr3⟩, hk1, hk2, hk3, ⟨hl1, by omega⟩, ⟨hl2, by omega⟩, ⟨hl3, by omega⟩⟩,
    ⟨trs_of hr4, poss_of hr5, hk4, hk5, ⟨hl4, by omega⟩, ⟨hl5, by omega⟩⟩, bals_of hr6, hk6, pgs_of hr7, hk7, ⟨hl7, by omega⟩, hr8, hk8, hr9, hk9, hra, hka⟩⟩
  congr 1
  exact Array.toList_inj.1 (by rw [e]; rfl)
end Go.Proofs.Ytckdbbjeifindaa.NumK
namespace Go.Proofs.Ytckdbbjeifindaa.NumK
open Go.RowKit

/-- Four cells, one behind the other. -/
abbrev set4 (w : World) (g k : Nat) (a b c d : Value) : World := (((w.setCell ⟨g, k, none⟩ a).setCell ⟨g, k + 1, none⟩ b).setCell ⟨g, k + 2, none⟩ c).setCell ⟨g, k + 3, none⟩ d
def turnL (l : List Lg) : List Lg := l.map fun x => (x.1, -(capV x.2))
def moveL (a b : Ac) (n : Int) : List Lg := [(a, -(capV n)), (b, capV n)]
theorem two_cells {w w1 : World} {c1 c2 : Array Value} {t1 t2 : TypeId} (h : Grew ((w.alloc (.cells c1 t1)).alloc (.cells c2 t2)) w1) :
    (∀ i, w1.cell? ⟨w.heap.size, i, none⟩ = c1[i]?) ∧ (∀ i, w1.cell? ⟨w.heap.size + 1, i, none⟩ = c2[i]?) ∧ Grew w w1 := by
  refine ⟨fun i => own_cell (own_back h) i, fun i => ?_, own_back (own_back h)⟩
  have := own_cell h i
  rwa [show (w.alloc (.cells c1 t1)).heap.size = w.heap.size + 1 by simp] at this

end Go.Proofs.Ytckdbbjeifindaa.NumK
namespace Go.Proofs.Ytckdbbjeifindaa.NumK
open Go.RowKit

theorem keep4 {w1 w2 : World} {B : Nat} {a b c d : Value} (g : Grew w1 w2) (hB : B < w1.heap.size) (h : w1.cell? ⟨B, 0, none⟩ = some a ∧ w1.cell? ⟨B, 1, none⟩ = some b ∧ w1.cell? ⟨B, 2, none⟩ = some c ∧ w1.cell? ⟨B, 3, none⟩ = some d) :
    w2.cell? ⟨B, 0, none⟩ = some a ∧ w2.cell? ⟨B, 1, none⟩ = some b ∧ w2.cell? ⟨B, 2, none⟩ = some c ∧ w2.cell? ⟨B, 3, none⟩ = some d :=
  ⟨(grew_cell g (p := ⟨B, 0, none⟩) hB).trans h.1, (grew_cell g (p := ⟨B, 1, none⟩) hB).trans h.2.1, (grew_cell g (p := ⟨B, 2, none⟩) hB).trans h.2.2.1, (grew_cell g (p := ⟨B, 3, none⟩) hB).trans h.2.2.2⟩
end Go.Proofs.Ytckdbbjeifindaa.NumK
namespace Go.Proofs.Ytckdbbjeifindaa.NumK
open Go.RowKit

end Go.Proofs.Ytckdbbjeifindaa.NumK
namespace Go.Proofs.Ytckdbbjeifindaa.NumK
open Go.RowKit

end Go.Proofs.Ytckdbbjeifindaa.NumK
namespace Go.Proofs.Ytckdbbjeifindaa.NumK
open Go.RowKit

/-- What stands of a currency. -/
def sumC (l : List Lg) (c : Int) : Int := ((l.filter fun x => decide (x.1.2.2 = c)).map (·.2)).sum
def evenL (l : List Lg) : Bool := decide (sumC l 0 = 0) && decide (sumC l 1 = 0) && decide (sumC l 2 = 0)
/-- Three sums in a block of the call's own. -/
structure Sums3 (w : World) (B : Nat) (s : Nat → Int) : Prop where
  lt : B < w.heap.size
  c0 : ∀ q, q < 3 → w.cell? ⟨B, q * 2, none⟩ = some (.int .i64 (hi64 (s q)))
  c1 : ∀ q, q < 3 → w.cell? ⟨B, q * 2 + 1, none⟩ = some (.int .u64 (lo64 (s q)))
  f0 : ∀ q, q < 3 → w.frozen? ⟨B, q * 2, none⟩ = false
  f1 : ∀ q, q < 3 → w.frozen? ⟨B, q * 2 + 1, none⟩ = false
theorem Sums3.keep {w w' : World} {B : Nat} {s : Nat → Int} (h : Sums3 w B s) (g : Grew w w') : Sums3 w' B s :=
  ⟨Nat.lt_of_lt_of_le h.lt g.size, fun q hq => (grew_cell g (p := ⟨B, q * 2, none⟩) h.lt).trans (h.c0 q hq), fun q hq => (grew_cell g (p := ⟨B, q * 2 + 1, none⟩) h.lt).trans (h.c1 q hq),
    fun q hq => (Below.frozen g (p := ⟨B, q * 2, none⟩) h.lt).trans (h.f0 q hq), fun q hq => (Below.frozen g (p := ⟨B, q * 2 + 1, none⟩) h.lt).trans (h.f1 q hq)⟩
theorem Sums3.new (w : World) (t : TypeId) : Sums3 (w.alloc (.cells #[.int .i64 0, .int .u64 0, .int .i64 0, .int .u64 0, .int .i64 0, .int .u64 0] t)) w.heap.size (fun _ => 0) := by
  refine ⟨by simp, fun q hq => ?_, fun q hq => ?_, fun q hq => by simp, fun q hq => by simp⟩
  · refine (World.cell?_alloc_at _ _ _ _ rfl).trans ?_
    match q, hq with
    | 0, _ => rfl
    | 1, _ => rfl
    | 2, _ => rfl
  · refine (World.cell?_alloc_at _ _ _ _ rfl).trans ?_
    match q, hq with
    | 0, _ => rfl
    | 1, _ => rfl
    | 2, _ => rfl
theorem Sums3.set {w : World} {B : Nat} {s s' : Nat → Int} (h : Sums3 w B s) (i : Nat) (hi : i < 3) (v : Int) (h1 : s' i = v) (h2 : ∀ q, q < 3 → q ≠ i → s' q = s q) :
    Sums3 ((w.setCell ⟨B, i * 2, none⟩ (.int .i64 (hi64 v))).setCell ⟨B, i * 2 + 1, none⟩ (.int .u64 (lo64 v))) B s' := by
  have ne : ∀ a b : Nat, a ≠ b → (⟨B, a, none⟩ : Addr) ≠ ⟨B, b, none⟩ := fun a b h e => h (by simp at e)
  refine ⟨by simp [World.setCell]; exact h.lt, fun q hq => ?_, fun q hq => ?_, fun q hq => by rw [World.frozen?_setCell, World.frozen?_setCell]; exact h.f0 q hq, fun q hq => by rw [World.frozen?_setCell, World.frozen?_setCell]; exact h.f1 q hq⟩
  · rw [World.cell?_setCell_other _ _ _ _ (ne _ _ (by omega))]
    by_cases c : q = i
    · subst c
      rw [World.cell?_setCell_same _ _ _ (h.c0 q hq), h1]
    · rw [World.cell?_setCell_other _ _ _ _ (ne _ _ (by omega)), h.c0 q hq, h2 q hq c]
  · by_cases c : q = i
    · subst c
      rw [World.cell?_setCell_same _ _ _ ((World.cell?_setCell_other _ _ _ _ (ne _ _ (by omega))).trans (h.c1 q hq)), h1]
    · rw [World.cell?_setCell_other _ _ _ _ (ne _ _ (by omega)), World.cell?_setCell_other _ _ _ _ (ne _ _ (by omega)), h.c1 q hq, h2 q hq c]

end Go.Proofs.Ytckdbbjeifindaa.NumK
namespace Go.Proofs.Ytckdbbjeifindaa.NumK
open Go.RowKit Go.Maps

end Go.Proofs.Ytckdbbjeifindaa.NumK
namespace Go.Proofs.Ytckdbbjeifindaa.NumK
open Go.RowKit

def checkE (l : List Lg) : Int := if l.length = 0 then 2 else if 64 < l.length then 5 else if mayL l then (if evenL l then 0 else 12) else 3

end Go.Proofs.Ytckdbbjeifindaa.NumK
namespace Go.Proofs.Ytckdbbjeifindaa.NumK
open Go.RowKit

theorem join_zero {l : List Lg} (h : joinE l = 0) : mayL l = true ∧ ∀ a ∈ allK, isMoney (sumA l a) = true := by
  unfold joinE at h
  by_cases hm : mayL l = true
  · rw [if_pos hm] at h
    refine ⟨hm, ?_⟩
    by_cases h2 : allK.all (fun a => isMoney (sumA l a)) = true
    · exact List.all_eq_true.1 h2
    · rw [if_neg h2] at h; cases h
  · rw [if_neg hm] at h; cases h
theorem allK_nodup : allK.Nodup := by decide +kernel
def pick (f : Ac → Int) (a : Ac) : Option Lg := if f a = 0 then none else some (a, f a)
theorem sumA_pick (f : Ac → Int) (L : List Ac) (hd : L.Nodup) (b : Ac) : sumA (L.filterMap (pick f)) b = if b ∈ L then f b else 0 := by
  induction L with
  | nil => simp [sumA_nil]
  | cons a L ih =>
    rw [List.nodup_cons] at hd
    have ih := ih hd.2
    rw [List.filterMap_cons]
    by_cases hab : a = b
    · subst hab
      rw [if_neg hd.1] at ih
      rw [if_pos (by simp)]
      by_cases h0 : f a = 0
      · rw [show pick f a = none by unfold pick; rw [if_pos h0], h0]; exact ih
      · rw [show pick f a = some (a, f a) by unfold pick; rw [if_neg h0]]
        dsimp only
        rw [sumA_cons, ih]; simp
    · have hmem : (if b ∈ a :: L then f b else 0) = if b ∈ L then f b else 0 := by simp [Ne.symm hab]
      rw [hmem, ← ih]
      by_cases h0 : f a = 0
      · rw [show pick f a = none by unfold pick; rw [if_pos h0]]
      · rw [show pick f a = some (a, f a) by unfold pick; rw [if_neg h0]]
        dsimp only
        rw [sumA_cons, if_neg hab]; omega
theorem joinF_pick (f : Ac → Int) : joinF f 108 = allK.filterMap (pick f) := by
  unfold joinF
  rw [List.take_of_length_le (by rw [allK_len]; exact Nat.le_refl _)]; rfl
theorem sumA_out (l : List Lg) (a : Ac) (hm : mayL l = true) (h : a ∉ allK) : sumA l a = 0 := by
  induction l with
  | nil => rfl
  | cons x l ih =>
    rw [may_cons] at hm
    rw [sumA_cons, ih hm.2, if_neg]
    · rfl
    · rintro rfl
      exact h (mem_allK x.1 (okL_parts hm.1).1)
/-- What is joined stands as what was joined. -/
theorem joined {l : List Lg} (h : joinE l = 0) : mayL (joinL l) = true ∧ ∀ a, sumA (joinL l) a = sumA l a := by
  obtain ⟨hm, hk⟩ := join_zero h
  have e : joinL l = allK.filterMap (pick (sumA l)) := by unfold joinL; rw [if_pos h, joinF_pick]
  rw [e]
  constructor
  · unfold mayL
    rw [List.all_eq_true]
    intro x hx
    obtain ⟨a, ha, hp⟩ := List.mem_filterMap.1 hx
    unfold pick at hp
    split at hp
    · cases hp
    · cases hp
      unfold okL
      rw [hk a ha, Bool.and_true]
      exact allK_right a ha
  · intro a
    rw [sumA_pick _ _ allK_nodup]
    split
    · rfl
    · rename_i hn; rw [sumA_out l a hm hn]
/-! ### currencies -/
/-! ### turns -/
/-! ### moves -/
end Go.Proofs.Ytckdbbjeifindaa.NumK
