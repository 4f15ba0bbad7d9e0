/-
  For every roll and trade: whether the trade may be, its legs and what takes them back are what the reference tells, the roll stays, and what is told is new memory; rolls of more than 100 rows the statement lets by.
-/
import Derived.Test.YtgblhliinjgofaaRP
import Derived.Test.YtgblhliinjgofaaRT
import Derived.Test.YtgblhliinjgofaaRQ
import Derived.Test.YtgblhliinjgofaaRF
import Derived.Test.YtgblhliinjgofaaRA
import Derived.Deep.RegionHeld3
import Derived.Deep.CutBlock
import Derived.BigQuiet
import Derived.Test.YtgblhliinjgofaaRows
import Derived.WalkKit
import Derived.ProofKit
import Derived.OpenShut
import Derived.ShutString
import Derived.ChangeOld
import Derived.Below
import Derived.Carry
namespace Go.Proofs.Ytgblhliinjgofaa.NumK
open Go.RowKit
set_option linter.unusedVariables false

/-- Rows in a block of the call's own are a slab. -/
theorem own_slab4 {w : World} {base : Nat} {t : TypeId} {A : Option Addr} {n c : Nat} {l : List Po} (h : OwnE enPo w base t (.slice A n c) l) (hn : n = l.length) : n = 0 ∨ ∃ g, A = some ⟨g, 0, none⟩ ∧ base ≤ g ∧ Slab w g (n * 4) := by
  obtain ⟨A', c', e, hs⟩ := h.slab
  cases e
  exact hs
theorem own_low {w : World} {base : Nat} {t : TypeId} {A : Option Addr} {n c : Nat} {l : List Po} (h : OwnE enPo w base t (.slice A n c) l) (k : Nat) (hk : w.heap.size ≤ k) : A.map (·.block) ≠ some k := by
  cases A with
  | none => simp
  | some x =>
    have := h.block x rfl
    simp only [Option.map_some, ne_eq, Option.some.injEq]
    omega

set_option maxRecDepth 100000 in
set_option maxHeartbeats 16000000 in
theorem tradeExact_walk (r : Rl) (t : Tr) (A1 A2 A3 : Option Addr) (n1 n2 n3 c1 c2 c3 : Nat) (w : World) (h : In3 w r A1 A2 A3 n1 n2 n3 c1 c2 c3) :
    Calls Try.prog 3 #[rlV A1 A2 A3 n1 n2 n3 c1 c2 c3, vTr t] w fun e w' => e = .returned (.bool true) ∧ Grew w w' := by
  obtain ⟨⟨q1, q2, q3, q4, q5, q6⟩, q7⟩ := t
  have CH := fun w' (g : Grew w w') => heavy11_any A1 A2 A3 n1 n2 n3 c1 c2 c3 w'
  have HG0 : Hid (Grew w ((w.alloc (.cells #[.slice A1 n1 c1, .slice A2 n2 c2, .slice A3 n3 c3] 26)).alloc (.cells #[.int .i64 q1, .int .i64 q2, .int .i64 q3, .int .i64 q4, .int .i64 q5, .int .i64 q6, .bool q7] 28))) := grew_trans (grew_alloc _ _ _) (grew_alloc _ _ _)
  have HX0 : Hid (OwnC ((w.alloc (.cells #[.slice A1 n1 c1, .slice A2 n2 c2, .slice A3 n3 c3] 26)).alloc (.cells #[.int .i64 q1, .int .i64 q2, .int .i64 q3, .int .i64 q4, .int .i64 q5, .int .i64 q6, .bool q7] 28)) w.heap.size [.slice A1 n1 c1, .slice A2 n2 c2, .slice A3 n3 c3]) := (OwnC.new w [.slice A1 n1 c1, .slice A2 n2 c2, .slice A3 n3 c3] _ _ rfl).keep (grew_alloc _ _ _)
  have HT0 : Hid (OwnC ((w.alloc (.cells #[.slice A1 n1 c1, .slice A2 n2 c2, .slice A3 n3 c3] 26)).alloc (.cells #[.int .i64 q1, .int .i64 q2, .int .i64 q3, .int .i64 q4, .int .i64 q5, .int .i64 q6, .bool q7] 28)) (w.heap.size + 1) [.int .i64 q1, .int .i64 q2, .int .i64 q3, .int .i64 q4, .int .i64 q5, .int .i64 q6, .bool q7]) := OwnC.new _ [.int .i64 q1, .int .i64 q2, .int .i64 q3, .int .i64 q4, .int .i64 q5, .int .i64 q6, .bool q7] _ _ (by simp)
  have hH0 : w.heap.size < w.heap.size + 1 := by omega
  cases hv : heavyR n1 n2 n3 with
  | true =>
    rw [hv] at CH
    dsimp only [rlV, vTr] at CH ⊢
    clear h hv
    go_enter Try.func3, Try.ntmps3
    go_wp2_with (go_at_call 8; ((with_reducible refine (CH _ HG0.out).mono ?_); rintro e w1 ⟨rfl, hg⟩; have HG := Lib.hid (grew_trans HG0.out hg); clear hg CH))
    go_ret
    exact ⟨rfl, HG.out⟩
  | false =>
    rw [hv] at CH
    have hn : n1 ≤ 1000000 ∧ n2 ≤ 1000000 ∧ n3 ≤ 1000000 := by
      unfold heavyR at hv
      simp only [Bool.or_eq_false_iff, decide_eq_false_iff_not] at hv
      omega
    have HL1 := h.rows.m.len
    have HL2 := h.rows.i.len
    have HL3 := h.rows.h.len
    have CT := fun w' (g : Grew w w') => twinRoll_any r A1 A2 A3 n1 n2 n3 c1 c2 c3 w' (h.keep g) hn
    have CK := fun w' B1 B2 B3 d1 d2 d3 (h3 : Rows3 w' r B1 B2 B3 n1 n2 n3) => tcheck_any r ((q1, q2, q3, q4, q5, q6), q7) B1 B2 B3 n1 n2 n3 d1 d2 d3 w' h3 hn
    have CR := fun w' (g : Grew w w') => rtrade_any r ((q1, q2, q3, q4, q5, q6), q7) A1 A2 A3 n1 n2 n3 c1 c2 c3 w' (h.rows.keep g) hn
    have CE := fun w' B1 B2 B3 d1 d2 d3 (g : Grew w w') (h3 : Rows3 w' r B1 B2 B3 n1 n2 n3) => keepRoll_yes r B1 B2 B3 A1 A2 A3 n1 n2 n3 d1 d2 d3 c1 c2 c3 w' h3 (h.rows.keep g) hn
    have CL := fun w => legs12_any ((q1, q2, q3, q4, q5, q6), q7) w
    have CU := fun w => undo12_any ((q1, q2, q3, q4, q5, q6), q7) w
    have CF := fun w => rlegs_any ((q1, q2, q3, q4, q5, q6), q7) false w
    have CB := fun w => rlegs_any ((q1, q2, q3, q4, q5, q6), q7) true w
    have CW := fun w => wakes12_any w
    have HN1 := Lib.hid (legs_len ((q1, q2, q3, q4, q5, q6), q7) false)
    have HN2 := Lib.hid (legs_len ((q1, q2, q3, q4, q5, q6), q7) true)
    unfold LegsPost at CL CU CF CB
    unfold RollQ at CT
    rw [HL1, HL2, HL3] at CT
    clear h hv
    generalize tradeP r ((q1, q2, q3, q4, q5, q6), q7) = V at *
    generalize legsT ((q1, q2, q3, q4, q5, q6), q7) false = lf at *
    generalize legsT ((q1, q2, q3, q4, q5, q6), q7) true = lu at *
    dsimp only [rlV, vTr] at CH CT CK CR CE CL CU CF CB ⊢
    go_enter Try.func3, Try.ntmps3
    go_upto_region 4 with (first
      | (go_at_call 8; ((with_reducible refine (CH _ HG0.out).mono ?_); rintro e w1 ⟨rfl, hg⟩; have HG1 := Lib.hid (grew_trans HG0.out hg); have HX1 := Lib.hid (HX0.out.keep hg); have HT1 := Lib.hid (HT0.out.keep hg); have x0 : w1.cell? ⟨w.heap.size, 0, none⟩ = some (.slice A1 n1 c1) := HX1.out.at 0 _ rfl; have x1 : w1.cell? ⟨w.heap.size, 1, none⟩ = some (.slice A2 n2 c2) := HX1.out.at 1 _ rfl; have x2 : w1.cell? ⟨w.heap.size, 2, none⟩ = some (.slice A3 n3 c3) := HX1.out.at 2 _ rfl; clear hg CH))
      | (go_at_call 9; ((with_reducible refine (CT _ HG1.out).mono ?_); rintro e w2 ⟨B1, B2, B3, d1, d2, d3, rfl, ⟨ho, -⟩, hg⟩; have HR2 : Hid (Rows3 w2 r B1 B2 B3 n1 n2 n3) := (by have hr := ho.rows; rw [HL1, HL2, HL3] at hr; exact hr); have HG2 := Lib.hid (grew_trans HG1.out hg); have HX2 := Lib.hid (HX1.out.keep hg); have HT2 := Lib.hid (HT1.out.keep hg); clear ho hg CT)))
    have HI3 : Hid (OwnC (w2.alloc (.cells #[.slice B1 n1 d1, .slice B2 n2 d2, .slice B3 n3 d3] 26)) w2.heap.size [.slice B1 n1 d1, .slice B2 n2 d2, .slice B3 n3 d3]) := OwnC.new w2 [.slice B1 n1 d1, .slice B2 n2 d2, .slice B3 n3 d3] _ _ rfl
    have HX3 : Hid (OwnC (w2.alloc (.cells #[.slice B1 n1 d1, .slice B2 n2 d2, .slice B3 n3 d3] 26)) w.heap.size [.slice A1 n1 c1, .slice A2 n2 c2, .slice A3 n3 c3]) := HX2.out.keep (grew_alloc _ _ _)
    have HT3 : Hid (OwnC (w2.alloc (.cells #[.slice B1 n1 d1, .slice B2 n2 d2, .slice B3 n3 d3] 26)) (w.heap.size + 1) [.int .i64 q1, .int .i64 q2, .int .i64 q3, .int .i64 q4, .int .i64 q5, .int .i64 q6, .bool q7]) := HT2.out.keep (grew_alloc _ _ _)
    have HR3 : Hid (Rows3 (w2.alloc (.cells #[.slice B1 n1 d1, .slice B2 n2 d2, .slice B3 n3 d3] 26)) r B1 B2 B3 n1 n2 n3) := HR2.out.keep (grew_alloc _ _ _)
    have HG3 : Hid (Grew w (w2.alloc (.cells #[.slice B1 n1 d1, .slice B2 n2 d2, .slice B3 n3 d3] 26))) := grew_trans HG2.out (grew_alloc _ _ _)
    clear HX0 HT0 HX1 HT1 HX2 HT2 HR2 HG0 HG1 HG2 x0 x1 x2 HL1 HL2 HL3
    generalize (w2.alloc (.cells #[.slice B1 n1 d1, .slice B2 n2 d2, .slice B3 n3 d3] 26)) = w3 at *
    generalize w2.heap.size = NI at *
    have r0 := grew_every (w := w3) (S := fun w' => w'.cell? ⟨w.heap.size, 0, none⟩ = some (.slice A1 n1 c1)) (fun w' g => (HX3.out.keep g).at 0 _ rfl)
    have r1 := grew_every (w := w3) (S := fun w' => w'.cell? ⟨w.heap.size, 1, none⟩ = some (.slice A2 n2 c2)) (fun w' g => (HX3.out.keep g).at 1 _ rfl)
    have r2 := grew_every (w := w3) (S := fun w' => w'.cell? ⟨w.heap.size, 2, none⟩ = some (.slice A3 n3 c3)) (fun w' g => (HX3.out.keep g).at 2 _ rfl)
    have i0 := grew_every (w := w3) (S := fun w' => w'.cell? ⟨NI, 0, none⟩ = some (.slice B1 n1 d1)) (fun w' g => (HI3.out.keep g).at 0 _ rfl)
    have i1 := grew_every (w := w3) (S := fun w' => w'.cell? ⟨NI, 1, none⟩ = some (.slice B2 n2 d2)) (fun w' g => (HI3.out.keep g).at 1 _ rfl)
    have i2 := grew_every (w := w3) (S := fun w' => w'.cell? ⟨NI, 2, none⟩ = some (.slice B3 n3 d3)) (fun w' g => (HI3.out.keep g).at 2 _ rfl)
    have t0 := grew_every (w := w3) (S := fun w' => w'.cell? ⟨w.heap.size + 1, 0, none⟩ = some (.int .i64 q1)) (fun w' g => (HT3.out.keep g).at 0 _ rfl)
    have t1 := grew_every (w := w3) (S := fun w' => w'.cell? ⟨w.heap.size + 1, 1, none⟩ = some (.int .i64 q2)) (fun w' g => (HT3.out.keep g).at 1 _ rfl)
    have t2 := grew_every (w := w3) (S := fun w' => w'.cell? ⟨w.heap.size + 1, 2, none⟩ = some (.int .i64 q3)) (fun w' g => (HT3.out.keep g).at 2 _ rfl)
    have t3 := grew_every (w := w3) (S := fun w' => w'.cell? ⟨w.heap.size + 1, 3, none⟩ = some (.int .i64 q4)) (fun w' g => (HT3.out.keep g).at 3 _ rfl)
    have t4 := grew_every (w := w3) (S := fun w' => w'.cell? ⟨w.heap.size + 1, 4, none⟩ = some (.int .i64 q5)) (fun w' g => (HT3.out.keep g).at 4 _ rfl)
    have t5 := grew_every (w := w3) (S := fun w' => w'.cell? ⟨w.heap.size + 1, 5, none⟩ = some (.int .i64 q6)) (fun w' g => (HT3.out.keep g).at 5 _ rfl)
    have t6 := grew_every (w := w3) (S := fun w' => w'.cell? ⟨w.heap.size + 1, 6, none⟩ = some (.bool q7)) (fun w' g => (HT3.out.keep g).at 6 _ rfl)
    have hVV : (V != V) = false := by simp
    have C1 := fun w' (g : Grew w3 w') => CK w' B1 B2 B3 d1 d2 d3 (HR3.out.keep g)
    have C2 := fun w' (g : Grew w3 w') => CR w' (grew_trans HG3.out g)
    have C3 := fun w' (g : Grew w3 w') => CE w' B1 B2 B3 d1 d2 d3 (grew_trans HG3.out g) (HR3.out.keep g)
    refine wp_region_grew (by kernel_rfl) (by kernel_rfl) ?_
    repeat (go_big_quiet_step (first | with_reducible exact calls_every C1 | with_reducible exact calls_every C2 | with_reducible exact calls_every C3))
    refine wpQuiet_nil ?_
    intro w5 hw'
    have HG5 := Lib.hid (grew_of hw')
    clear hw' r0 r1 r2 i0 i1 i2 t0 t1 t2 t3 t4 t5 t6 C1 C2 C3 CK CR CE
    have HGA : Hid (Grew w w5) := grew_trans HG3.out HG5.out
    have HT5 := Lib.hid (HT3.out.keep HG5.out)
    have HSZ : Hid (w.heap.size + 1 < w5.heap.size) := HT5.out.lt
    have HK : Hid (∀ w', Grew w5 w' → (w'.cell? ⟨w.heap.size + 1, 0, none⟩ = some (.int .i64 q1) ∧ w'.cell? ⟨w.heap.size + 1, 1, none⟩ = some (.int .i64 q2) ∧ w'.cell? ⟨w.heap.size + 1, 2, none⟩ = some (.int .i64 q3) ∧ w'.cell? ⟨w.heap.size + 1, 3, none⟩ = some (.int .i64 q4) ∧ w'.cell? ⟨w.heap.size + 1, 4, none⟩ = some (.int .i64 q5) ∧ w'.cell? ⟨w.heap.size + 1, 5, none⟩ = some (.int .i64 q6) ∧ w'.cell? ⟨w.heap.size + 1, 6, none⟩ = some (.bool q7))) := fun w' g => ⟨(HT5.out.keep g).at 0 _ rfl, (HT5.out.keep g).at 1 _ rfl, (HT5.out.keep g).at 2 _ rfl, (HT5.out.keep g).at 3 _ rfl, (HT5.out.keep g).at 4 _ rfl, (HT5.out.keep g).at 5 _ rfl, (HT5.out.keep g).at 6 _ rfl⟩
    clear HX3 HT3 HI3 HR3 HG3 HG5
    go_upto_region 6 with fail
    go_region_held3 (fun w' => w'.cell? ⟨w.heap.size + 1, 0, none⟩ = some (.int .i64 q1) ∧ w'.cell? ⟨w.heap.size + 1, 1, none⟩ = some (.int .i64 q2) ∧ w'.cell? ⟨w.heap.size + 1, 2, none⟩ = some (.int .i64 q3) ∧ w'.cell? ⟨w.heap.size + 1, 3, none⟩ = some (.int .i64 q4) ∧ w'.cell? ⟨w.heap.size + 1, 4, none⟩ = some (.int .i64 q5) ∧ w'.cell? ⟨w.heap.size + 1, 5, none⟩ = some (.int .i64 q6) ∧ w'.cell? ⟨w.heap.size + 1, 6, none⟩ = some (.bool q7))
      (first
        | (with_reducible exact HK.out _ (grew_drew (grew_refl _)))
        | (with_reducible exact HK.out _ HG7.out)
        | (with_reducible exact HK.out _ HG6.out))
      (first
        | (go_at_call 13; ((with_reducible refine (CL _).mono ?_); rintro e w6 ⟨P1, e1, rfl, ho, hg⟩; have HG6 : Hid (Grew w5 w6) := grew_trans (grew_drew (grew_refl _)) hg; have HO1 : Hid (OwnE enPo w6 w5.heap.size 48 (.slice P1 lf.length e1) lf) := ho; clear ho hg CL))
        | (go_at_call 14; ((with_reducible refine (CU _).mono ?_); rintro e w7 ⟨P2, e2, rfl, ho, hg⟩; have HG7 : Hid (Grew w5 w7) := grew_trans HG6.out hg; have HO2 : Hid (OwnE enPo w7 w6.heap.size 48 (.slice P2 lu.length e2) lu) := ho; have HLO := Lib.hid (own_low HO1.out); have HO1 := Lib.hid (HO1.out.keep hg); clear ho hg CU)))
    have HR1 := Lib.hid (own_form HO1.out).1
    have HR2 := Lib.hid (own_form HO2.out).1
    have CP := fun w' B d (h : RowE enPo w' P1 lf.length lf) (h2 : RowE enPo w' B lf.length lf) => keepPoss_yes P1 B lf.length e1 d lf w' h h2 (by have := HN1.out; omega)
    have CQ := fun w' B d (h : RowE enPo w' P2 lu.length lu) (h2 : RowE enPo w' B lu.length lu) => keepPoss_yes P2 B lu.length e2 d lu w' h h2 (by have := HN2.out; omega)
    have CS := fun w' (g : Grew w7 w') => spoilPoss_any P1 lf.length e1 w5.heap.size w' (own_slab4 (HO1.out.keep g) rfl) (by have := HN1.out; omega)
    have HK7 : Hid (∀ w', Grew w7 w' → OwnC w' (w.heap.size + 1) [.int .i64 q1, .int .i64 q2, .int .i64 q3, .int .i64 q4, .int .i64 q5, .int .i64 q6, .bool q7]) := fun w' g => HT5.out.keep (grew_trans HG7.out g)
    have t0 : w7.cell? ⟨w.heap.size + 1, 0, none⟩ = some (.int .i64 q1) := (HK7.out _ (grew_refl _)).at 0 _ rfl; have t1 : w7.cell? ⟨w.heap.size + 1, 1, none⟩ = some (.int .i64 q2) := (HK7.out _ (grew_refl _)).at 1 _ rfl; have t2 : w7.cell? ⟨w.heap.size + 1, 2, none⟩ = some (.int .i64 q3) := (HK7.out _ (grew_refl _)).at 2 _ rfl; have t3 : w7.cell? ⟨w.heap.size + 1, 3, none⟩ = some (.int .i64 q4) := (HK7.out _ (grew_refl _)).at 3 _ rfl; have t4 : w7.cell? ⟨w.heap.size + 1, 4, none⟩ = some (.int .i64 q5) := (HK7.out _ (grew_refl _)).at 4 _ rfl; have t5 : w7.cell? ⟨w.heap.size + 1, 5, none⟩ = some (.int .i64 q6) := (HK7.out _ (grew_refl _)).at 5 _ rfl; have t6 : w7.cell? ⟨w.heap.size + 1, 6, none⟩ = some (.bool q7) := (HK7.out _ (grew_refl _)).at 6 _ rfl
    have HGB : Hid (Grew w w7) := grew_trans HGA.out HG7.out
    clear HK
    go_upto_region 9 with (first
      | (go_at_call 16; ((with_reducible refine (CF _).mono ?_); rintro e w8 ⟨P3, e3, rfl, ho, hg⟩; have HG8 := Lib.hid hg; have HR3 := Lib.hid (own_form ho).1; clear ho hg CF))
      | (go_at_call 15; ((with_reducible refine (CP _ P3 e3 (HR1.out.keep HG8.out) HR3.out).mono ?_); rintro e w9 ⟨rfl, hg⟩; have HG9 : Hid (Grew w7 w9) := grew_trans HG8.out hg; have t0 : w9.cell? ⟨w.heap.size + 1, 0, none⟩ = some (.int .i64 q1) := (HK7.out _ HG9.out).at 0 _ rfl; have t1 : w9.cell? ⟨w.heap.size + 1, 1, none⟩ = some (.int .i64 q2) := (HK7.out _ HG9.out).at 1 _ rfl; have t2 : w9.cell? ⟨w.heap.size + 1, 2, none⟩ = some (.int .i64 q3) := (HK7.out _ HG9.out).at 2 _ rfl; have t3 : w9.cell? ⟨w.heap.size + 1, 3, none⟩ = some (.int .i64 q4) := (HK7.out _ HG9.out).at 3 _ rfl; have t4 : w9.cell? ⟨w.heap.size + 1, 4, none⟩ = some (.int .i64 q5) := (HK7.out _ HG9.out).at 4 _ rfl; have t5 : w9.cell? ⟨w.heap.size + 1, 5, none⟩ = some (.int .i64 q6) := (HK7.out _ HG9.out).at 5 _ rfl; have t6 : w9.cell? ⟨w.heap.size + 1, 6, none⟩ = some (.bool q7) := (HK7.out _ HG9.out).at 6 _ rfl; clear hg))
      | (go_at_call 16; ((with_reducible refine (CB _).mono ?_); rintro e w10 ⟨P4, e4, rfl, ho, hg⟩; have HG10 : Hid (Grew w7 w10) := grew_trans HG9.out hg; have HR4 := Lib.hid (own_form ho).1; clear ho hg))
      | (go_at_call 15; ((with_reducible refine (CQ _ P4 e4 (HR2.out.keep HG10.out) HR4.out).mono ?_); rintro e w11 ⟨rfl, hg⟩; have HG11 : Hid (Grew w7 w11) := grew_trans HG10.out hg; clear hg)))
    have HO2b := Lib.hid (HO2.out.keep HG11.out)
    have HT11 := Lib.hid (HK7.out _ HG11.out)
    have HGC : Hid (Grew w w11) := grew_trans HGB.out HG11.out
    have HA1 := Lib.hid HGA.out.size
    clear HK7 HR1 HR2 HR3 HR4 HO1 HO2 HT5 HG8 HG9 HG10 HGA HGB CP
    go_wp2_with (first
      | (go_at_call 17; ((with_reducible refine (CS _ HG11.out).mono ?_); rintro e w12 ⟨rfl, hb, hs⟩; have HO12 : Hid (OwnE enPo w12 w6.heap.size 48 (.slice P2 lu.length e2) lu) := HO2b.out.same (fun k hk => hs k (HLO.out k hk)); have HR12 := Lib.hid (own_form HO12.out).1; have HG12 : Hid (Grew w w12) := Below.trans HGC.out (hb.mono HA1.out); have HT12 := Lib.hid (HT11.out.below hb HSZ.out); have t0 : w12.cell? ⟨w.heap.size + 1, 0, none⟩ = some (.int .i64 q1) := HT12.out.at 0 _ rfl; have t1 : w12.cell? ⟨w.heap.size + 1, 1, none⟩ = some (.int .i64 q2) := HT12.out.at 1 _ rfl; have t2 : w12.cell? ⟨w.heap.size + 1, 2, none⟩ = some (.int .i64 q3) := HT12.out.at 2 _ rfl; have t3 : w12.cell? ⟨w.heap.size + 1, 3, none⟩ = some (.int .i64 q4) := HT12.out.at 3 _ rfl; have t4 : w12.cell? ⟨w.heap.size + 1, 4, none⟩ = some (.int .i64 q5) := HT12.out.at 4 _ rfl; have t5 : w12.cell? ⟨w.heap.size + 1, 5, none⟩ = some (.int .i64 q6) := HT12.out.at 5 _ rfl; have t6 : w12.cell? ⟨w.heap.size + 1, 6, none⟩ = some (.bool q7) := HT12.out.at 6 _ rfl; clear hb hs CS))
      | (go_at_call 16; ((with_reducible refine (CB _).mono ?_); rintro e w13 ⟨P5, e5, rfl, ho, hg⟩; have HG13 : Hid (Grew w w13) := grew_trans HG12.out hg; have HR13 := Lib.hid (HR12.out.keep hg); have HR5 := Lib.hid (own_form ho).1; clear ho hg))
      | (go_at_call 15; ((with_reducible refine (CQ _ P5 e5 HR13.out HR5.out).mono ?_); rintro e w14 ⟨rfl, hg⟩; have HG14 : Hid (Grew w w14) := grew_trans HG13.out hg; clear hg))
      | (go_at_call 18; ((with_reducible refine (CW _).mono ?_); rintro e w15 ⟨rfl, hg⟩; have HG15 := Lib.hid (grew_trans HG14.out hg); clear hg)))
    go_ret
    exact ⟨rfl, HG15.out⟩
end Go.Proofs.Ytgblhliinjgofaa.NumK
namespace Go.Proofs.Ytgblhliinjgofaa.NumK
open Go.RowKit
set_option linter.unusedVariables false

theorem tradeExact_row (w : World) {cs0 cs1 : Array Value} {r : Rl} {t : Tr} (h0 : spRl.rd w cs0.toList r) (h1 : spTr.rd w cs1.toList t) :
    Calls Try.prog 3 #[.agg cs0, .agg cs1] w fun e w' => e = .returned (.bool true) ∧ Grew w w' := by
  obtain ⟨A1, A2, A3, n1, n2, n3, c1, c2, c3, e, h⟩ := roll_of h0
  rw [e, tr_of h1]
  exact tradeExact_walk r t A1 A2 A3 n1 n2 n3 c1 c2 c3 w h
end Go.Proofs.Ytgblhliinjgofaa.NumK
namespace Go.Proofs.Ytgblhliinjgofaa.tradeExact
open Go.ChangeShapes Go.WideShapes Go.ChangeAt Go.RowKit
set_option linter.unusedVariables false

theorem own : ownKnob Try.prog.godebug = none := by kernel_rfl
theorem laidOut : laidOutB Try.prog = true := by kernel_rfl

set_option maxRecDepth 100000 in
theorem lifted (os : Os) (started : os.Started) (H : Type) (enc : TypeId × Value → H) :
    ReturnsInHanded {} Try.checked os 3 .any (Rows.tradeExactSpec.pre6 enc Try.prog Try.f3 Rows.tradeExactRow.domain false) (Rows.tradeExactSpec.post enc Try.prog Try.f3 false true false false) := by
  refine returnsInHanded_of_change (C := Try.checked) own started (by kernel_rfl) Try.func3
    (ChangeSpec.witness6 (enc := enc) (C := Try.checked) false ⟨#[], #[.agg #[.slice none 0 0, .slice none 0 0, .slice none 0 0], .agg #[.int .i64 0, .int .i64 0, .int .i64 0, .int .i64 0, .int .i64 0, .int .i64 0, .bool false]], []⟩ 8 (by kernel_rfl) (by kernel_rfl) (by kernel_rfl) (by kernel_rfl)) ?_
  intro W base args ds gs before hval0 hW hcnd _
  have hval : ∀ (j : Nat) t v, Try.f3.params[j]? = some t → args[j]? = some v → Value.okWide Try.prog W .any base t v := hval0
  have hW' := hW
  obtain ⟨p, q, hA0, hV, rfl, hfz, hnd⟩ := hW
  have hA : DataW.TrodAll enc Try.prog W 0 (fun _ => true) true Try.f3.params.toList args.toList ds p := hA0
  skip
  rw [Try.params3] at hA hval
  obtain ⟨v0, vs0, d0, ds0, p0, q0, hargs, rfl, rfl, h0, r0⟩ := trodAll_cons hA
  obtain ⟨v1, vs1, d1, ds1, p1, q1, rfl, rfl, rfl, h1, r1⟩ := trodAll_cons r0
  obtain ⟨rfl, rfl, rfl⟩ := trodAll_nil r1
  obtain rfl : args = #[v0, v1] := by cases args; simp_all
  obtain ⟨rfl, rfl⟩ := trodVars_none hV
  have k0 := h0
  have lt0 : ∀ x ∈ p0, x.block < W.heap.size := by obtain ⟨m, hm⟩ := k0; exact DataW.trod_lt m _ _ _ hm
  obtain ⟨cs0, x0, rfl, e0⟩ := NumK.arg_struct Try.underlying26 NumK.opens_roll (hval 0 26 v0 rfl rfl) h0
  have k1 := h1
  have lt1 : ∀ x ∈ p1, x.block < W.heap.size := by obtain ⟨m, hm⟩ := k1; exact DataW.trod_lt m _ _ _ hm
  obtain ⟨cs1, x1, rfl, e1⟩ := NumK.arg_struct Try.underlying28 NumK.opens_trade (hval 1 28 v1 rfl rfl) h1
  clear hA0 hval0
  refine (NumK.tradeExact_row W e0 e1).mono fun e W' ⟨he, bel⟩ => ?_
  subst he
  exact ⟨_, rfl, _, _, _, [], _, [], hW', trodAll_mk1 (shut_bool Try.underlying4 _), (trodAll_cons_mk (Below.trod laidOut (by kernel_rfl) (of_decide_eq_true (by kernel_rfl)) k0 bel lt0) (trodAll_cons_mk (Below.trod laidOut (by kernel_rfl) (of_decide_eq_true (by kernel_rfl)) k1 bel lt1) trodAll_mk0)), rfl, bel.frame _, fun h => by cases h⟩

theorem over : Rows.tradeExactRow.holds Try.pinned (OpenSpec.ofChange Rows.tradeExactSpec) :=
  OpenClaim.holds_of_wide 3 Try.f3 rfl rfl rfl rfl rfl rfl rfl ⟨rfl, rfl, rfl, rfl, rfl⟩ rfl rfl rfl rfl rfl (by kernel_rfl) Try.func3 (by kernel_rfl)
    (of_decide_eq_true (by kernel_rfl)) (by unfold Func.isWrapper; first | (rw [if_pos (by decide +kernel)]; kernel_rfl) | (rw [if_neg (by decide +kernel)]; exact ⟨rfl, rfl⟩))
    (fun os started H enc _ => lifted os started H enc)

/-! ### the statement -/
theorem proved : Rows.TradeExactSaid := over
end Go.Proofs.Ytgblhliinjgofaa.tradeExact
