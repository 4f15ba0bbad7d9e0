/- mark.markOne: one position, marked. -/
import Derived.Test.YtlbfljkhlkjcbaaRG5
import Derived.Test.YtlbfljkhlkjcbaaRG2
import Derived.Test.YtlbfljkhlkjcbaaRG8
import Derived.Test.YtlbfljkhlkjcbaaRG9
import Derived.Deep.CutBlock
import Derived.Test.YtlbfljkhlkjcbaaRG3
import Derived.Deep.RegionHeld3
import Derived.Deep.RegionWith
namespace Go.Proofs.Ytlbfljkhlkjcbaa.NumK
open Go.RowKit
set_option linter.unusedVariables false

abbrev Du := Int × Int × Int
abbrev du0 : Du := (0, 0, 0)
abbrev vDu (d : Du) : Value := .agg #[.int .i64 d.1, .int .i64 d.2.1, .int .i64 d.2.2]
def enDu : En Du := ⟨3, fun x => [.int .i64 x.1, .int .i64 x.2.1, .int .i64 x.2.2], fun _ => rfl, fun a v hv => by
  simp at hv; rcases hv with rfl | rfl | rfl <;> rfl, by decide⟩
theorem info_du : (Try.prog.info? 67).map (fun i => (i.zero, i.size, i.bytes)) = some (some (vDu du0), 3, 24) := by kernel_rfl

/-- A position as it stands then, and its due; nothing beside an error. -/
def oneP (r : Rl) (p : Po) : Po := if stepM r p = 0 then (p.1, p.2.1, p.2.2.1, costP r p) else po0
def oneD (r : Rl) (p : Po) : Du := if stepM r p = 0 then dueP r p else du0

theorem one_none {r : Rl} {p : Po} (h : hasI r p = false) : stepM r p = 10 := by unfold stepM; rw [h]; rfl
theorem one_price {r : Rl} {p : Po} (h : hasI r p = true) (h2 : priceI (instOf r p) = 0 ∧ p.2.2.1 ≠ 0) : stepM r p = 20 := by unfold stepM; rw [if_pos h, if_pos h2]
theorem one_big {r : Rl} {p : Po} (h : hasI r p = true) (h2 : ¬ (priceI (instOf r p) = 0 ∧ p.2.2.1 ≠ 0)) (h3 : (isMoney (wonP r p) && isMoney (costP r p)) = false) : stepM r p = 1 := by
  unfold stepM; rw [if_pos h, if_neg h2, h3]; rfl
theorem one_ok {r : Rl} {p : Po} (h : hasI r p = true) (h2 : ¬ (priceI (instOf r p) = 0 ∧ p.2.2.1 ≠ 0)) (h3 : (isMoney (wonP r p) && isMoney (costP r p)) = true) : stepM r p = 0 := by
  unfold stepM; rw [if_pos h, if_neg h2, if_pos h3]
theorem worthE_may {p : Po} {m k : Int} (h : mayW p m k = true) : worthE p m k = if isMoney (worthV p m k) then 0 else 1 := by unfold worthE; rw [if_pos h]
theorem worthN_may {p : Po} {m k : Int} (h : mayW p m k = true) (h2 : isMoney (worthV p m k) = true) : worthN p m k = worthV p m k := by
  unfold worthN worthE; rw [if_pos h, if_pos h2, if_pos rfl]
theorem may_parts {p : Po} {m k : Int} (h : mayW p m k = true) : isMoney p.2.2.1 = true ∧ isMoney k = true := by
  simp only [mayW, okQ, wi, Bool.and_eq_true, decide_eq_true_eq] at h
  rw [isMoney_iff, isMoney_iff]; omega

section
variable (A1 A2 A3 : Option Addr) (n1 n2 n3 c1 c2 c3 : Nat) (q1 q2 q3 q4 j1 j2 j3 j4 j5 j6 j7 j8 j9 j10 j11 j12 k e0 wv we cv ce : Int) (B : Bool) (w : World)
  (CI : ∀ w', Grew w w' → Calls Try.prog 70 #[.agg #[.slice A1 n1 c1, .slice A2 n2 c2, .slice A3 n3 c3], .int .i64 q2] w' fun e w'' => e = .returned (.tuple #[.agg #[.int .i64 j1, .int .i64 j2, .int .i64 j3, .int .i64 j4, .int .i64 j5, .int .i64 j6, .int .i64 j7, .int .i64 j8, .int .i64 j9, .int .i64 j10, .int .i64 j11, .int .i64 j12], .bool B]) ∧ Grew w' w'')
  (CP : ∀ w', Calls Try.prog 13 #[.agg #[.int .i64 j1, .int .i64 j2, .int .i64 j3, .int .i64 j4, .int .i64 j5, .int .i64 j6, .int .i64 j7, .int .i64 j8, .int .i64 j9, .int .i64 j10, .int .i64 j11, .int .i64 j12]] w' fun e w'' => e = .returned (.tuple #[.int .i64 k, .int .i64 e0]) ∧ Grew w' w'')
  (CW : ∀ w', Calls Try.prog 10 #[.agg #[.int .i64 q1, .int .i64 q2, .int .i64 q3, .int .i64 q4], .int .i64 j3, .int .i64 k] w' fun e w'' => e = .returned (.tuple #[.int .i64 wv, .int .i64 we]) ∧ Grew w' w'')
  (CT : ∀ w', Calls Try.prog 71 #[.int .i64 q3, .int .i64 k] w' fun e w'' => e = .returned (.tuple #[.int .i64 cv, .int .i64 ce]) ∧ Grew w' w'')

def OneP (p : Po) (d : Du) (n : Int) (w : World) (e : Ending) (w' : World) : Prop := e = .returned (.tuple #[vPo p, vDu d, .int .i64 n]) ∧ Grew w w'
include CI in
set_option maxRecDepth 100000 in
set_option maxHeartbeats 2000000 in
theorem wk_no (hB : B = false) : Calls Try.prog 41 #[.agg #[.slice A1 n1 c1, .slice A2 n2 c2, .slice A3 n3 c3], .agg #[.int .i64 q1, .int .i64 q2, .int .i64 q3, .int .i64 q4]] w (OneP po0 du0 10 w) := by
  subst hB
  have HX0 : Hid (OwnC ((((w.alloc (.cells #[.slice A1 n1 c1, .slice A2 n2 c2, .slice A3 n3 c3] 26)).alloc (.cells #[.int .i64 q1, .int .i64 q2, .int .i64 q3, .int .i64 q4] 34)).alloc (.cells #[.int .i64 0, .int .i64 0, .int .i64 0, .int .i64 0] 34)).alloc (.cells #[.int .i64 0, .int .i64 0, .int .i64 0] 67)) w.heap.size [.slice A1 n1 c1, .slice A2 n2 c2, .slice A3 n3 c3]) := (((OwnC.new w [.slice A1 n1 c1, .slice A2 n2 c2, .slice A3 n3 c3] _ _ rfl).keep (grew_alloc _ _ _)).keep (grew_alloc _ _ _)).keep (grew_alloc _ _ _)
  have HP0 : Hid (OwnC ((((w.alloc (.cells #[.slice A1 n1 c1, .slice A2 n2 c2, .slice A3 n3 c3] 26)).alloc (.cells #[.int .i64 q1, .int .i64 q2, .int .i64 q3, .int .i64 q4] 34)).alloc (.cells #[.int .i64 0, .int .i64 0, .int .i64 0, .int .i64 0] 34)).alloc (.cells #[.int .i64 0, .int .i64 0, .int .i64 0] 67)) (w.heap.size + 1) [.int .i64 q1, .int .i64 q2, .int .i64 q3, .int .i64 q4]) := ((OwnC.new (w.alloc (.cells #[.slice A1 n1 c1, .slice A2 n2 c2, .slice A3 n3 c3] 26)) [.int .i64 q1, .int .i64 q2, .int .i64 q3, .int .i64 q4] _ _ (by simp)).keep (grew_alloc _ _ _)).keep (grew_alloc _ _ _)
  have HQ0 : Hid (OwnC ((((w.alloc (.cells #[.slice A1 n1 c1, .slice A2 n2 c2, .slice A3 n3 c3] 26)).alloc (.cells #[.int .i64 q1, .int .i64 q2, .int .i64 q3, .int .i64 q4] 34)).alloc (.cells #[.int .i64 0, .int .i64 0, .int .i64 0, .int .i64 0] 34)).alloc (.cells #[.int .i64 0, .int .i64 0, .int .i64 0] 67)) (w.heap.size + 1 + 1) [.int .i64 0, .int .i64 0, .int .i64 0, .int .i64 0]) := (OwnC.new ((w.alloc (.cells #[.slice A1 n1 c1, .slice A2 n2 c2, .slice A3 n3 c3] 26)).alloc (.cells #[.int .i64 q1, .int .i64 q2, .int .i64 q3, .int .i64 q4] 34)) [.int .i64 0, .int .i64 0, .int .i64 0, .int .i64 0] _ _ (by simp)).keep (grew_alloc _ _ _)
  have HR0 : Hid (OwnC ((((w.alloc (.cells #[.slice A1 n1 c1, .slice A2 n2 c2, .slice A3 n3 c3] 26)).alloc (.cells #[.int .i64 q1, .int .i64 q2, .int .i64 q3, .int .i64 q4] 34)).alloc (.cells #[.int .i64 0, .int .i64 0, .int .i64 0, .int .i64 0] 34)).alloc (.cells #[.int .i64 0, .int .i64 0, .int .i64 0] 67)) (w.heap.size + 1 + 1 + 1) [.int .i64 0, .int .i64 0, .int .i64 0]) := OwnC.new (((w.alloc (.cells #[.slice A1 n1 c1, .slice A2 n2 c2, .slice A3 n3 c3] 26)).alloc (.cells #[.int .i64 q1, .int .i64 q2, .int .i64 q3, .int .i64 q4] 34)).alloc (.cells #[.int .i64 0, .int .i64 0, .int .i64 0, .int .i64 0] 34)) [.int .i64 0, .int .i64 0, .int .i64 0] _ _ (by simp)
  have HG0 : Hid (Grew w ((((w.alloc (.cells #[.slice A1 n1 c1, .slice A2 n2 c2, .slice A3 n3 c3] 26)).alloc (.cells #[.int .i64 q1, .int .i64 q2, .int .i64 q3, .int .i64 q4] 34)).alloc (.cells #[.int .i64 0, .int .i64 0, .int .i64 0, .int .i64 0] 34)).alloc (.cells #[.int .i64 0, .int .i64 0, .int .i64 0] 67))) := grew_trans (grew_trans (grew_trans (grew_alloc _ _ _) (grew_alloc _ _ _)) (grew_alloc _ _ _)) (grew_alloc _ _ _)
  have HN : Hid (w.heap.size ≤ w.heap.size + 1 ∧ w.heap.size ≤ w.heap.size + 1 + 1 ∧ w.heap.size ≤ w.heap.size + 1 + 1 + 1 ∧ w.heap.size + 1 ≠ w.heap.size + 1 + 1 ∧ w.heap.size + 1 ≠ w.heap.size + 1 + 1 + 1 ∧ w.heap.size + 1 + 1 ≠ w.heap.size + 1 + 1 + 1) := by show _ ∧ _; omega
  go_enter Try.func41, Try.ntmps41
  go_upto_region 1 with (fail)
  generalize ((((w.alloc (.cells #[.slice A1 n1 c1, .slice A2 n2 c2, .slice A3 n3 c3] 26)).alloc (.cells #[.int .i64 q1, .int .i64 q2, .int .i64 q3, .int .i64 q4] 34)).alloc (.cells #[.int .i64 0, .int .i64 0, .int .i64 0, .int .i64 0] 34)).alloc (.cells #[.int .i64 0, .int .i64 0, .int .i64 0] 67)) = w0 at *
  generalize w.heap.size + 1 + 1 + 1 = br at *
  generalize w.heap.size + 1 + 1 = bq at *
  generalize w.heap.size + 1 = bp at *
  have u0 := HX0.out.at 0 (.slice A1 n1 c1) rfl; have u1 := HX0.out.at 1 (.slice A2 n2 c2) rfl; have u2 := HX0.out.at 2 (.slice A3 n3 c3) rfl
  have p0 := HP0.out.at 0 (.int .i64 q1) rfl; have p1 := HP0.out.at 1 (.int .i64 q2) rfl; have p2 := HP0.out.at 2 (.int .i64 q3) rfl; have p3 := HP0.out.at 3 (.int .i64 q4) rfl
  go_upto_region 2 with (go_at_call 70; (with_reducible refine (CI _ HG0.out).mono ?_); rintro e w1 ⟨rfl, hg⟩; have HG1 : Hid (Grew w w1) := grew_trans HG0.out hg; have HP1 := Lib.hid (HP0.out.keep hg); have HQ1 := Lib.hid (HQ0.out.keep hg); have HR1 := Lib.hid (HR0.out.keep hg); clear hg HP0 HQ0 HR0 HG0 HX0 u0 u1 u2 p0 p1 p2 p3)
  have HP2 : Hid (OwnC (w1.alloc (.cells #[.int .i64 j1, .int .i64 j2, .int .i64 j3, .int .i64 j4, .int .i64 j5, .int .i64 j6, .int .i64 j7, .int .i64 j8, .int .i64 j9, .int .i64 j10, .int .i64 j11, .int .i64 j12] 37)) bp [.int .i64 q1, .int .i64 q2, .int .i64 q3, .int .i64 q4]) := HP1.out.keep (grew_alloc _ _ _)
  have HQ2 : Hid (OwnC (w1.alloc (.cells #[.int .i64 j1, .int .i64 j2, .int .i64 j3, .int .i64 j4, .int .i64 j5, .int .i64 j6, .int .i64 j7, .int .i64 j8, .int .i64 j9, .int .i64 j10, .int .i64 j11, .int .i64 j12] 37)) bq [.int .i64 0, .int .i64 0, .int .i64 0, .int .i64 0]) := HQ1.out.keep (grew_alloc _ _ _)
  have HR2 : Hid (OwnC (w1.alloc (.cells #[.int .i64 j1, .int .i64 j2, .int .i64 j3, .int .i64 j4, .int .i64 j5, .int .i64 j6, .int .i64 j7, .int .i64 j8, .int .i64 j9, .int .i64 j10, .int .i64 j11, .int .i64 j12] 37)) br [.int .i64 0, .int .i64 0, .int .i64 0]) := HR1.out.keep (grew_alloc _ _ _)
  have HI2 : Hid (OwnC (w1.alloc (.cells #[.int .i64 j1, .int .i64 j2, .int .i64 j3, .int .i64 j4, .int .i64 j5, .int .i64 j6, .int .i64 j7, .int .i64 j8, .int .i64 j9, .int .i64 j10, .int .i64 j11, .int .i64 j12] 37)) w1.heap.size [.int .i64 j1, .int .i64 j2, .int .i64 j3, .int .i64 j4, .int .i64 j5, .int .i64 j6, .int .i64 j7, .int .i64 j8, .int .i64 j9, .int .i64 j10, .int .i64 j11, .int .i64 j12]) := OwnC.new w1 [.int .i64 j1, .int .i64 j2, .int .i64 j3, .int .i64 j4, .int .i64 j5, .int .i64 j6, .int .i64 j7, .int .i64 j8, .int .i64 j9, .int .i64 j10, .int .i64 j11, .int .i64 j12] _ _ rfl
  have HG2 : Hid (Grew w (w1.alloc (.cells #[.int .i64 j1, .int .i64 j2, .int .i64 j3, .int .i64 j4, .int .i64 j5, .int .i64 j6, .int .i64 j7, .int .i64 j8, .int .i64 j9, .int .i64 j10, .int .i64 j11, .int .i64 j12] 37))) := grew_trans HG1.out (grew_alloc _ _ _)
  have HNi : Hid (w.heap.size ≤ w1.heap.size ∧ bp ≠ w1.heap.size ∧ bq ≠ w1.heap.size ∧ br ≠ w1.heap.size) := ⟨grew_size HG1.out, Nat.ne_of_lt HP1.out.lt, Nat.ne_of_lt HQ1.out.lt, Nat.ne_of_lt HR1.out.lt⟩
  clear HP1 HQ1 HR1 HG1
  generalize (w1.alloc (.cells #[.int .i64 j1, .int .i64 j2, .int .i64 j3, .int .i64 j4, .int .i64 j5, .int .i64 j6, .int .i64 j7, .int .i64 j8, .int .i64 j9, .int .i64 j10, .int .i64 j11, .int .i64 j12] 37)) = w2 at *
  generalize w1.heap.size = bi at *
  have hn1 := HN.out.2.2.2.2.2
  have hn2 := hn1.symm
  have a0 := HQ2.out.at 0 (.int .i64 0) rfl; have a1 := HQ2.out.at 1 (.int .i64 0) rfl; have a2 := HQ2.out.at 2 (.int .i64 0) rfl; have a3 := HQ2.out.at 3 (.int .i64 0) rfl; have b0 := HR2.out.at 0 (.int .i64 0) rfl; have b1 := HR2.out.at 1 (.int .i64 0) rfl; have b2 := HR2.out.at 2 (.int .i64 0) rfl; have f0 := HQ2.out.fr 0 (by decide); have f1 := HQ2.out.fr 1 (by decide); have f2 := HQ2.out.fr 2 (by decide); have f3 := HQ2.out.fr 3 (by decide); have g0 := HR2.out.fr 0 (by decide); have g1 := HR2.out.fr 1 (by decide); have g2 := HR2.out.fr 2 (by decide)
  go_wp2
  refine end_put2 (w := w) (P := bodyPost _ _ _ _ _) [.int .i64 0, .int .i64 0, .int .i64 0, .int .i64 0] [.int .i64 0, .int .i64 0, .int .i64 0] (by rfl) (by rfl) HQ2.out HR2.out HG2.out HN.out.2.1 HN.out.2.2.1 HN.out.2.2.2.2.2 ?_
  intro w9 h5 h6 g9
  have z0 := (Lib.hid h5).out.at 0 (.int .i64 0) rfl; have z1 := (Lib.hid h5).out.at 1 (.int .i64 0) rfl; have z2 := (Lib.hid h5).out.at 2 (.int .i64 0) rfl; have z3 := (Lib.hid h5).out.at 3 (.int .i64 0) rfl
  have y0 := (Lib.hid h6).out.at 0 (.int .i64 0) rfl; have y1 := (Lib.hid h6).out.at 1 (.int .i64 0) rfl; have y2 := (Lib.hid h6).out.at 2 (.int .i64 0) rfl
  exact bodyPost_ret (v := .tuple #[vPo po0, vDu du0, .int .i64 10]) (by simp [results, Try.results41, go_sem, z0, z1, z2, z3, y0, y1, y2, po0]) rfl ⟨rfl, g9⟩
include CI CP in
set_option maxRecDepth 100000 in
set_option maxHeartbeats 2000000 in
theorem wk_pr (hB : B = true) (h1 : (e0 != 0) = true) (h2 : (q3 != 0) = true) : Calls Try.prog 41 #[.agg #[.slice A1 n1 c1, .slice A2 n2 c2, .slice A3 n3 c3], .agg #[.int .i64 q1, .int .i64 q2, .int .i64 q3, .int .i64 q4]] w (OneP po0 du0 e0 w) := by
  subst hB
  have HX0 : Hid (OwnC ((((w.alloc (.cells #[.slice A1 n1 c1, .slice A2 n2 c2, .slice A3 n3 c3] 26)).alloc (.cells #[.int .i64 q1, .int .i64 q2, .int .i64 q3, .int .i64 q4] 34)).alloc (.cells #[.int .i64 0, .int .i64 0, .int .i64 0, .int .i64 0] 34)).alloc (.cells #[.int .i64 0, .int .i64 0, .int .i64 0] 67)) w.heap.size [.slice A1 n1 c1, .slice A2 n2 c2, .slice A3 n3 c3]) := (((OwnC.new w [.slice A1 n1 c1, .slice A2 n2 c2, .slice A3 n3 c3] _ _ rfl).keep (grew_alloc _ _ _)).keep (grew_alloc _ _ _)).keep (grew_alloc _ _ _)
  have HP0 : Hid (OwnC ((((w.alloc (.cells #[.slice A1 n1 c1, .slice A2 n2 c2, .slice A3 n3 c3] 26)).alloc (.cells #[.int .i64 q1, .int .i64 q2, .int .i64 q3, .int .i64 q4] 34)).alloc (.cells #[.int .i64 0, .int .i64 0, .int .i64 0, .int .i64 0] 34)).alloc (.cells #[.int .i64 0, .int .i64 0, .int .i64 0] 67)) (w.heap.size + 1) [.int .i64 q1, .int .i64 q2, .int .i64 q3, .int .i64 q4]) := ((OwnC.new (w.alloc (.cells #[.slice A1 n1 c1, .slice A2 n2 c2, .slice A3 n3 c3] 26)) [.int .i64 q1, .int .i64 q2, .int .i64 q3, .int .i64 q4] _ _ (by simp)).keep (grew_alloc _ _ _)).keep (grew_alloc _ _ _)
  have HQ0 : Hid (OwnC ((((w.alloc (.cells #[.slice A1 n1 c1, .slice A2 n2 c2, .slice A3 n3 c3] 26)).alloc (.cells #[.int .i64 q1, .int .i64 q2, .int .i64 q3, .int .i64 q4] 34)).alloc (.cells #[.int .i64 0, .int .i64 0, .int .i64 0, .int .i64 0] 34)).alloc (.cells #[.int .i64 0, .int .i64 0, .int .i64 0] 67)) (w.heap.size + 1 + 1) [.int .i64 0, .int .i64 0, .int .i64 0, .int .i64 0]) := (OwnC.new ((w.alloc (.cells #[.slice A1 n1 c1, .slice A2 n2 c2, .slice A3 n3 c3] 26)).alloc (.cells #[.int .i64 q1, .int .i64 q2, .int .i64 q3, .int .i64 q4] 34)) [.int .i64 0, .int .i64 0, .int .i64 0, .int .i64 0] _ _ (by simp)).keep (grew_alloc _ _ _)
  have HR0 : Hid (OwnC ((((w.alloc (.cells #[.slice A1 n1 c1, .slice A2 n2 c2, .slice A3 n3 c3] 26)).alloc (.cells #[.int .i64 q1, .int .i64 q2, .int .i64 q3, .int .i64 q4] 34)).alloc (.cells #[.int .i64 0, .int .i64 0, .int .i64 0, .int .i64 0] 34)).alloc (.cells #[.int .i64 0, .int .i64 0, .int .i64 0] 67)) (w.heap.size + 1 + 1 + 1) [.int .i64 0, .int .i64 0, .int .i64 0]) := OwnC.new (((w.alloc (.cells #[.slice A1 n1 c1, .slice A2 n2 c2, .slice A3 n3 c3] 26)).alloc (.cells #[.int .i64 q1, .int .i64 q2, .int .i64 q3, .int .i64 q4] 34)).alloc (.cells #[.int .i64 0, .int .i64 0, .int .i64 0, .int .i64 0] 34)) [.int .i64 0, .int .i64 0, .int .i64 0] _ _ (by simp)
  have HG0 : Hid (Grew w ((((w.alloc (.cells #[.slice A1 n1 c1, .slice A2 n2 c2, .slice A3 n3 c3] 26)).alloc (.cells #[.int .i64 q1, .int .i64 q2, .int .i64 q3, .int .i64 q4] 34)).alloc (.cells #[.int .i64 0, .int .i64 0, .int .i64 0, .int .i64 0] 34)).alloc (.cells #[.int .i64 0, .int .i64 0, .int .i64 0] 67))) := grew_trans (grew_trans (grew_trans (grew_alloc _ _ _) (grew_alloc _ _ _)) (grew_alloc _ _ _)) (grew_alloc _ _ _)
  have HN : Hid (w.heap.size ≤ w.heap.size + 1 ∧ w.heap.size ≤ w.heap.size + 1 + 1 ∧ w.heap.size ≤ w.heap.size + 1 + 1 + 1 ∧ w.heap.size + 1 ≠ w.heap.size + 1 + 1 ∧ w.heap.size + 1 ≠ w.heap.size + 1 + 1 + 1 ∧ w.heap.size + 1 + 1 ≠ w.heap.size + 1 + 1 + 1) := by show _ ∧ _; omega
  go_enter Try.func41, Try.ntmps41
  go_upto_region 1 with (fail)
  generalize ((((w.alloc (.cells #[.slice A1 n1 c1, .slice A2 n2 c2, .slice A3 n3 c3] 26)).alloc (.cells #[.int .i64 q1, .int .i64 q2, .int .i64 q3, .int .i64 q4] 34)).alloc (.cells #[.int .i64 0, .int .i64 0, .int .i64 0, .int .i64 0] 34)).alloc (.cells #[.int .i64 0, .int .i64 0, .int .i64 0] 67)) = w0 at *
  generalize w.heap.size + 1 + 1 + 1 = br at *
  generalize w.heap.size + 1 + 1 = bq at *
  generalize w.heap.size + 1 = bp at *
  have u0 := HX0.out.at 0 (.slice A1 n1 c1) rfl; have u1 := HX0.out.at 1 (.slice A2 n2 c2) rfl; have u2 := HX0.out.at 2 (.slice A3 n3 c3) rfl
  have p0 := HP0.out.at 0 (.int .i64 q1) rfl; have p1 := HP0.out.at 1 (.int .i64 q2) rfl; have p2 := HP0.out.at 2 (.int .i64 q3) rfl; have p3 := HP0.out.at 3 (.int .i64 q4) rfl
  go_upto_region 2 with (go_at_call 70; (with_reducible refine (CI _ HG0.out).mono ?_); rintro e w1 ⟨rfl, hg⟩; have HG1 : Hid (Grew w w1) := grew_trans HG0.out hg; have HP1 := Lib.hid (HP0.out.keep hg); have HQ1 := Lib.hid (HQ0.out.keep hg); have HR1 := Lib.hid (HR0.out.keep hg); clear hg HP0 HQ0 HR0 HG0 HX0 u0 u1 u2 p0 p1 p2 p3)
  have HP2 : Hid (OwnC (w1.alloc (.cells #[.int .i64 j1, .int .i64 j2, .int .i64 j3, .int .i64 j4, .int .i64 j5, .int .i64 j6, .int .i64 j7, .int .i64 j8, .int .i64 j9, .int .i64 j10, .int .i64 j11, .int .i64 j12] 37)) bp [.int .i64 q1, .int .i64 q2, .int .i64 q3, .int .i64 q4]) := HP1.out.keep (grew_alloc _ _ _)
  have HQ2 : Hid (OwnC (w1.alloc (.cells #[.int .i64 j1, .int .i64 j2, .int .i64 j3, .int .i64 j4, .int .i64 j5, .int .i64 j6, .int .i64 j7, .int .i64 j8, .int .i64 j9, .int .i64 j10, .int .i64 j11, .int .i64 j12] 37)) bq [.int .i64 0, .int .i64 0, .int .i64 0, .int .i64 0]) := HQ1.out.keep (grew_alloc _ _ _)
  have HR2 : Hid (OwnC (w1.alloc (.cells #[.int .i64 j1, .int .i64 j2, .int .i64 j3, .int .i64 j4, .int .i64 j5, .int .i64 j6, .int .i64 j7, .int .i64 j8, .int .i64 j9, .int .i64 j10, .int .i64 j11, .int .i64 j12] 37)) br [.int .i64 0, .int .i64 0, .int .i64 0]) := HR1.out.keep (grew_alloc _ _ _)
  have HI2 : Hid (OwnC (w1.alloc (.cells #[.int .i64 j1, .int .i64 j2, .int .i64 j3, .int .i64 j4, .int .i64 j5, .int .i64 j6, .int .i64 j7, .int .i64 j8, .int .i64 j9, .int .i64 j10, .int .i64 j11, .int .i64 j12] 37)) w1.heap.size [.int .i64 j1, .int .i64 j2, .int .i64 j3, .int .i64 j4, .int .i64 j5, .int .i64 j6, .int .i64 j7, .int .i64 j8, .int .i64 j9, .int .i64 j10, .int .i64 j11, .int .i64 j12]) := OwnC.new w1 [.int .i64 j1, .int .i64 j2, .int .i64 j3, .int .i64 j4, .int .i64 j5, .int .i64 j6, .int .i64 j7, .int .i64 j8, .int .i64 j9, .int .i64 j10, .int .i64 j11, .int .i64 j12] _ _ rfl
  have HG2 : Hid (Grew w (w1.alloc (.cells #[.int .i64 j1, .int .i64 j2, .int .i64 j3, .int .i64 j4, .int .i64 j5, .int .i64 j6, .int .i64 j7, .int .i64 j8, .int .i64 j9, .int .i64 j10, .int .i64 j11, .int .i64 j12] 37))) := grew_trans HG1.out (grew_alloc _ _ _)
  have HNi : Hid (w.heap.size ≤ w1.heap.size ∧ bp ≠ w1.heap.size ∧ bq ≠ w1.heap.size ∧ br ≠ w1.heap.size) := ⟨grew_size HG1.out, Nat.ne_of_lt HP1.out.lt, Nat.ne_of_lt HQ1.out.lt, Nat.ne_of_lt HR1.out.lt⟩
  clear HP1 HQ1 HR1 HG1
  generalize (w1.alloc (.cells #[.int .i64 j1, .int .i64 j2, .int .i64 j3, .int .i64 j4, .int .i64 j5, .int .i64 j6, .int .i64 j7, .int .i64 j8, .int .i64 j9, .int .i64 j10, .int .i64 j11, .int .i64 j12] 37)) = w2 at *
  generalize w1.heap.size = bi at *
  have hn1 := HN.out.2.2.2.2.2
  have hn2 := hn1.symm
  have p0 := HP2.out.at 0 (.int .i64 q1) rfl; have p1 := HP2.out.at 1 (.int .i64 q2) rfl; have p2 := HP2.out.at 2 (.int .i64 q3) rfl; have p3 := HP2.out.at 3 (.int .i64 q4) rfl
  have i0 := HI2.out.at 0 (.int .i64 j1) rfl; have i1 := HI2.out.at 1 (.int .i64 j2) rfl; have i2 := HI2.out.at 2 (.int .i64 j3) rfl; have i3 := HI2.out.at 3 (.int .i64 j4) rfl; have i4 := HI2.out.at 4 (.int .i64 j5) rfl; have i5 := HI2.out.at 5 (.int .i64 j6) rfl; have i6 := HI2.out.at 6 (.int .i64 j7) rfl; have i7 := HI2.out.at 7 (.int .i64 j8) rfl; have i8 := HI2.out.at 8 (.int .i64 j9) rfl; have i9 := HI2.out.at 9 (.int .i64 j10) rfl; have i10 := HI2.out.at 10 (.int .i64 j11) rfl; have i11 := HI2.out.at 11 (.int .i64 j12) rfl
  go_wp2_with (go_at_call 13; (with_reducible refine (CP _).mono ?_); rintro e w3 ⟨rfl, hg⟩; have HG3 : Hid (Grew w w3) := grew_trans HG2.out hg; have HP3 := Lib.hid (HP2.out.keep hg); have HQ3 := Lib.hid (HQ2.out.keep hg); have HR3 := Lib.hid (HR2.out.keep hg); have HI3 := Lib.hid (HI2.out.keep hg); clear hg HP2 HQ2 HR2 HI2 HG2 p0 p1 p2 p3 i0 i1 i2 i3 i4 i5 i6 i7 i8 i9 i10 i11; have p0 := HP3.out.at 0 (.int .i64 q1) rfl; have p1 := HP3.out.at 1 (.int .i64 q2) rfl; have p2 := HP3.out.at 2 (.int .i64 q3) rfl; have p3 := HP3.out.at 3 (.int .i64 q4) rfl; have i1 := HI3.out.at 1 (.int .i64 j2) rfl; have i2 := HI3.out.at 2 (.int .i64 j3) rfl; have a0 := HQ3.out.at 0 (.int .i64 0) rfl; have a1 := HQ3.out.at 1 (.int .i64 0) rfl; have a2 := HQ3.out.at 2 (.int .i64 0) rfl; have a3 := HQ3.out.at 3 (.int .i64 0) rfl; have b0 := HR3.out.at 0 (.int .i64 0) rfl; have b1 := HR3.out.at 1 (.int .i64 0) rfl; have b2 := HR3.out.at 2 (.int .i64 0) rfl; have f0 := HQ3.out.fr 0 (by decide); have f1 := HQ3.out.fr 1 (by decide); have f2 := HQ3.out.fr 2 (by decide); have f3 := HQ3.out.fr 3 (by decide); have g0 := HR3.out.fr 0 (by decide); have g1 := HR3.out.fr 1 (by decide); have g2 := HR3.out.fr 2 (by decide))
  refine end_put2 (w := w) (P := bodyPost _ _ _ _ _) [.int .i64 0, .int .i64 0, .int .i64 0, .int .i64 0] [.int .i64 0, .int .i64 0, .int .i64 0] (by rfl) (by rfl) HQ3.out HR3.out HG3.out HN.out.2.1 HN.out.2.2.1 HN.out.2.2.2.2.2 ?_
  intro w9 h5 h6 g9
  have z0 := (Lib.hid h5).out.at 0 (.int .i64 0) rfl; have z1 := (Lib.hid h5).out.at 1 (.int .i64 0) rfl; have z2 := (Lib.hid h5).out.at 2 (.int .i64 0) rfl; have z3 := (Lib.hid h5).out.at 3 (.int .i64 0) rfl
  have y0 := (Lib.hid h6).out.at 0 (.int .i64 0) rfl; have y1 := (Lib.hid h6).out.at 1 (.int .i64 0) rfl; have y2 := (Lib.hid h6).out.at 2 (.int .i64 0) rfl
  exact bodyPost_ret (v := .tuple #[vPo po0, vDu du0, .int .i64 e0]) (by simp [results, Try.results41, go_sem, z0, z1, z2, z3, y0, y1, y2, po0]) rfl ⟨rfl, g9⟩
include CI CP CW CT in
set_option maxRecDepth 100000 in
set_option maxHeartbeats 2000000 in
theorem wk_big (hB : B = true) (h1 : (e0 != 0) = true ∧ (q3 != 0) = false ∨ (e0 != 0) = false) (h2 : (we != 0) = true ∨ (we != 0) = false ∧ (ce != 0) = true) : Calls Try.prog 41 #[.agg #[.slice A1 n1 c1, .slice A2 n2 c2, .slice A3 n3 c3], .agg #[.int .i64 q1, .int .i64 q2, .int .i64 q3, .int .i64 q4]] w (OneP po0 du0 1 w) := by
  subst hB
  have HX0 : Hid (OwnC ((((w.alloc (.cells #[.slice A1 n1 c1, .slice A2 n2 c2, .slice A3 n3 c3] 26)).alloc (.cells #[.int .i64 q1, .int .i64 q2, .int .i64 q3, .int .i64 q4] 34)).alloc (.cells #[.int .i64 0, .int .i64 0, .int .i64 0, .int .i64 0] 34)).alloc (.cells #[.int .i64 0, .int .i64 0, .int .i64 0] 67)) w.heap.size [.slice A1 n1 c1, .slice A2 n2 c2, .slice A3 n3 c3]) := (((OwnC.new w [.slice A1 n1 c1, .slice A2 n2 c2, .slice A3 n3 c3] _ _ rfl).keep (grew_alloc _ _ _)).keep (grew_alloc _ _ _)).keep (grew_alloc _ _ _)
  have HP0 : Hid (OwnC ((((w.alloc (.cells #[.slice A1 n1 c1, .slice A2 n2 c2, .slice A3 n3 c3] 26)).alloc (.cells #[.int .i64 q1, .int .i64 q2, .int .i64 q3, .int .i64 q4] 34)).alloc (.cells #[.int .i64 0, .int .i64 0, .int .i64 0, .int .i64 0] 34)).alloc (.cells #[.int .i64 0, .int .i64 0, .int .i64 0] 67)) (w.heap.size + 1) [.int .i64 q1, .int .i64 q2, .int .i64 q3, .int .i64 q4]) := ((OwnC.new (w.alloc (.cells #[.slice A1 n1 c1, .slice A2 n2 c2, .slice A3 n3 c3] 26)) [.int .i64 q1, .int .i64 q2, .int .i64 q3, .int .i64 q4] _ _ (by simp)).keep (grew_alloc _ _ _)).keep (grew_alloc _ _ _)
  have HQ0 : Hid (OwnC ((((w.alloc (.cells #[.slice A1 n1 c1, .slice A2 n2 c2, .slice A3 n3 c3] 26)).alloc (.cells #[.int .i64 q1, .int .i64 q2, .int .i64 q3, .int .i64 q4] 34)).alloc (.cells #[.int .i64 0, .int .i64 0, .int .i64 0, .int .i64 0] 34)).alloc (.cells #[.int .i64 0, .int .i64 0, .int .i64 0] 67)) (w.heap.size + 1 + 1) [.int .i64 0, .int .i64 0, .int .i64 0, .int .i64 0]) := (OwnC.new ((w.alloc (.cells #[.slice A1 n1 c1, .slice A2 n2 c2, .slice A3 n3 c3] 26)).alloc (.cells #[.int .i64 q1, .int .i64 q2, .int .i64 q3, .int .i64 q4] 34)) [.int .i64 0, .int .i64 0, .int .i64 0, .int .i64 0] _ _ (by simp)).keep (grew_alloc _ _ _)
  have HR0 : Hid (OwnC ((((w.alloc (.cells #[.slice A1 n1 c1, .slice A2 n2 c2, .slice A3 n3 c3] 26)).alloc (.cells #[.int .i64 q1, .int .i64 q2, .int .i64 q3, .int .i64 q4] 34)).alloc (.cells #[.int .i64 0, .int .i64 0, .int .i64 0, .int .i64 0] 34)).alloc (.cells #[.int .i64 0, .int .i64 0, .int .i64 0] 67)) (w.heap.size + 1 + 1 + 1) [.int .i64 0, .int .i64 0, .int .i64 0]) := OwnC.new (((w.alloc (.cells #[.slice A1 n1 c1, .slice A2 n2 c2, .slice A3 n3 c3] 26)).alloc (.cells #[.int .i64 q1, .int .i64 q2, .int .i64 q3, .int .i64 q4] 34)).alloc (.cells #[.int .i64 0, .int .i64 0, .int .i64 0, .int .i64 0] 34)) [.int .i64 0, .int .i64 0, .int .i64 0] _ _ (by simp)
  have HG0 : Hid (Grew w ((((w.alloc (.cells #[.slice A1 n1 c1, .slice A2 n2 c2, .slice A3 n3 c3] 26)).alloc (.cells #[.int .i64 q1, .int .i64 q2, .int .i64 q3, .int .i64 q4] 34)).alloc (.cells #[.int .i64 0, .int .i64 0, .int .i64 0, .int .i64 0] 34)).alloc (.cells #[.int .i64 0, .int .i64 0, .int .i64 0] 67))) := grew_trans (grew_trans (grew_trans (grew_alloc _ _ _) (grew_alloc _ _ _)) (grew_alloc _ _ _)) (grew_alloc _ _ _)
  have HN : Hid (w.heap.size ≤ w.heap.size + 1 ∧ w.heap.size ≤ w.heap.size + 1 + 1 ∧ w.heap.size ≤ w.heap.size + 1 + 1 + 1 ∧ w.heap.size + 1 ≠ w.heap.size + 1 + 1 ∧ w.heap.size + 1 ≠ w.heap.size + 1 + 1 + 1 ∧ w.heap.size + 1 + 1 ≠ w.heap.size + 1 + 1 + 1) := by show _ ∧ _; omega
  go_enter Try.func41, Try.ntmps41
  go_upto_region 1 with (fail)
  generalize ((((w.alloc (.cells #[.slice A1 n1 c1, .slice A2 n2 c2, .slice A3 n3 c3] 26)).alloc (.cells #[.int .i64 q1, .int .i64 q2, .int .i64 q3, .int .i64 q4] 34)).alloc (.cells #[.int .i64 0, .int .i64 0, .int .i64 0, .int .i64 0] 34)).alloc (.cells #[.int .i64 0, .int .i64 0, .int .i64 0] 67)) = w0 at *
  generalize w.heap.size + 1 + 1 + 1 = br at *
  generalize w.heap.size + 1 + 1 = bq at *
  generalize w.heap.size + 1 = bp at *
  have u0 := HX0.out.at 0 (.slice A1 n1 c1) rfl; have u1 := HX0.out.at 1 (.slice A2 n2 c2) rfl; have u2 := HX0.out.at 2 (.slice A3 n3 c3) rfl
  have p0 := HP0.out.at 0 (.int .i64 q1) rfl; have p1 := HP0.out.at 1 (.int .i64 q2) rfl; have p2 := HP0.out.at 2 (.int .i64 q3) rfl; have p3 := HP0.out.at 3 (.int .i64 q4) rfl
  go_upto_region 2 with (go_at_call 70; (with_reducible refine (CI _ HG0.out).mono ?_); rintro e w1 ⟨rfl, hg⟩; have HG1 : Hid (Grew w w1) := grew_trans HG0.out hg; have HP1 := Lib.hid (HP0.out.keep hg); have HQ1 := Lib.hid (HQ0.out.keep hg); have HR1 := Lib.hid (HR0.out.keep hg); clear hg HP0 HQ0 HR0 HG0 HX0 u0 u1 u2 p0 p1 p2 p3)
  have HP2 : Hid (OwnC (w1.alloc (.cells #[.int .i64 j1, .int .i64 j2, .int .i64 j3, .int .i64 j4, .int .i64 j5, .int .i64 j6, .int .i64 j7, .int .i64 j8, .int .i64 j9, .int .i64 j10, .int .i64 j11, .int .i64 j12] 37)) bp [.int .i64 q1, .int .i64 q2, .int .i64 q3, .int .i64 q4]) := HP1.out.keep (grew_alloc _ _ _)
  have HQ2 : Hid (OwnC (w1.alloc (.cells #[.int .i64 j1, .int .i64 j2, .int .i64 j3, .int .i64 j4, .int .i64 j5, .int .i64 j6, .int .i64 j7, .int .i64 j8, .int .i64 j9, .int .i64 j10, .int .i64 j11, .int .i64 j12] 37)) bq [.int .i64 0, .int .i64 0, .int .i64 0, .int .i64 0]) := HQ1.out.keep (grew_alloc _ _ _)
  have HR2 : Hid (OwnC (w1.alloc (.cells #[.int .i64 j1, .int .i64 j2, .int .i64 j3, .int .i64 j4, .int .i64 j5, .int .i64 j6, .int .i64 j7, .int .i64 j8, .int .i64 j9, .int .i64 j10, .int .i64 j11, .int .i64 j12] 37)) br [.int .i64 0, .int .i64 0, .int .i64 0]) := HR1.out.keep (grew_alloc _ _ _)
  have HI2 : Hid (OwnC (w1.alloc (.cells #[.int .i64 j1, .int .i64 j2, .int .i64 j3, .int .i64 j4, .int .i64 j5, .int .i64 j6, .int .i64 j7, .int .i64 j8, .int .i64 j9, .int .i64 j10, .int .i64 j11, .int .i64 j12] 37)) w1.heap.size [.int .i64 j1, .int .i64 j2, .int .i64 j3, .int .i64 j4, .int .i64 j5, .int .i64 j6, .int .i64 j7, .int .i64 j8, .int .i64 j9, .int .i64 j10, .int .i64 j11, .int .i64 j12]) := OwnC.new w1 [.int .i64 j1, .int .i64 j2, .int .i64 j3, .int .i64 j4, .int .i64 j5, .int .i64 j6, .int .i64 j7, .int .i64 j8, .int .i64 j9, .int .i64 j10, .int .i64 j11, .int .i64 j12] _ _ rfl
  have HG2 : Hid (Grew w (w1.alloc (.cells #[.int .i64 j1, .int .i64 j2, .int .i64 j3, .int .i64 j4, .int .i64 j5, .int .i64 j6, .int .i64 j7, .int .i64 j8, .int .i64 j9, .int .i64 j10, .int .i64 j11, .int .i64 j12] 37))) := grew_trans HG1.out (grew_alloc _ _ _)
  have HNi : Hid (w.heap.size ≤ w1.heap.size ∧ bp ≠ w1.heap.size ∧ bq ≠ w1.heap.size ∧ br ≠ w1.heap.size) := ⟨grew_size HG1.out, Nat.ne_of_lt HP1.out.lt, Nat.ne_of_lt HQ1.out.lt, Nat.ne_of_lt HR1.out.lt⟩
  clear HP1 HQ1 HR1 HG1
  generalize (w1.alloc (.cells #[.int .i64 j1, .int .i64 j2, .int .i64 j3, .int .i64 j4, .int .i64 j5, .int .i64 j6, .int .i64 j7, .int .i64 j8, .int .i64 j9, .int .i64 j10, .int .i64 j11, .int .i64 j12] 37)) = w2 at *
  generalize w1.heap.size = bi at *
  have hn1 := HN.out.2.2.2.2.2
  have hn2 := hn1.symm
  have p0 := HP2.out.at 0 (.int .i64 q1) rfl; have p1 := HP2.out.at 1 (.int .i64 q2) rfl; have p2 := HP2.out.at 2 (.int .i64 q3) rfl; have p3 := HP2.out.at 3 (.int .i64 q4) rfl
  have i0 := HI2.out.at 0 (.int .i64 j1) rfl; have i1 := HI2.out.at 1 (.int .i64 j2) rfl; have i2 := HI2.out.at 2 (.int .i64 j3) rfl; have i3 := HI2.out.at 3 (.int .i64 j4) rfl; have i4 := HI2.out.at 4 (.int .i64 j5) rfl; have i5 := HI2.out.at 5 (.int .i64 j6) rfl; have i6 := HI2.out.at 6 (.int .i64 j7) rfl; have i7 := HI2.out.at 7 (.int .i64 j8) rfl; have i8 := HI2.out.at 8 (.int .i64 j9) rfl; have i9 := HI2.out.at 9 (.int .i64 j10) rfl; have i10 := HI2.out.at 10 (.int .i64 j11) rfl; have i11 := HI2.out.at 11 (.int .i64 j12) rfl
  rcases h1 with ⟨h1, h3⟩ | h1 <;> rcases h2 with h2 | ⟨h2, h4⟩
  all_goals
   (go_wp2_with (first
      | (go_at_call 13; (with_reducible refine (CP _).mono ?_); rintro e w3 ⟨rfl, hg⟩; have HG3 : Hid (Grew w w3) := grew_trans HG2.out hg; have HP3 := Lib.hid (HP2.out.keep hg); have HQ3 := Lib.hid (HQ2.out.keep hg); have HR3 := Lib.hid (HR2.out.keep hg); have HI3 := Lib.hid (HI2.out.keep hg); clear hg HP2 HQ2 HR2 HI2 HG2 p0 p1 p2 p3 i0 i1 i2 i3 i4 i5 i6 i7 i8 i9 i10 i11; have p0 := HP3.out.at 0 (.int .i64 q1) rfl; have p1 := HP3.out.at 1 (.int .i64 q2) rfl; have p2 := HP3.out.at 2 (.int .i64 q3) rfl; have p3 := HP3.out.at 3 (.int .i64 q4) rfl; have i1 := HI3.out.at 1 (.int .i64 j2) rfl; have i2 := HI3.out.at 2 (.int .i64 j3) rfl)
      | (go_at_call 10; (with_reducible refine (CW _).mono ?_); rintro e w4 ⟨rfl, hg⟩; have HG4 : Hid (Grew w w4) := grew_trans HG3.out hg; have HP4 := Lib.hid (HP3.out.keep hg); have HQ4 := Lib.hid (HQ3.out.keep hg); have HR4 := Lib.hid (HR3.out.keep hg); have HI4 := Lib.hid (HI3.out.keep hg); clear hg HP3 HQ3 HR3 HI3 HG3 p0 p1 p2 p3 i1 i2; have p0 := HP4.out.at 0 (.int .i64 q1) rfl; have p1 := HP4.out.at 1 (.int .i64 q2) rfl; have p2 := HP4.out.at 2 (.int .i64 q3) rfl; have p3 := HP4.out.at 3 (.int .i64 q4) rfl; have i1 := HI4.out.at 1 (.int .i64 j2) rfl; have i2 := HI4.out.at 2 (.int .i64 j3) rfl)
      | (go_at_call 71; (with_reducible refine (CT _).mono ?_); rintro e w5 ⟨rfl, hg⟩; have HG5 : Hid (Grew w w5) := grew_trans HG4.out hg; have HP5 := Lib.hid (HP4.out.keep hg); have HQ5 := Lib.hid (HQ4.out.keep hg); have HR5 := Lib.hid (HR4.out.keep hg); have HI5 := Lib.hid (HI4.out.keep hg); clear hg HP4 HQ4 HR4 HI4 HG4 p0 p1 p2 p3 i1 i2; have p0 := HP5.out.at 0 (.int .i64 q1) rfl; have p1 := HP5.out.at 1 (.int .i64 q2) rfl; have p2 := HP5.out.at 2 (.int .i64 q3) rfl; have p3 := HP5.out.at 3 (.int .i64 q4) rfl; have i1 := HI5.out.at 1 (.int .i64 j2) rfl; have i2 := HI5.out.at 2 (.int .i64 j3) rfl; have a0 := HQ5.out.at 0 (.int .i64 0) rfl; have a1 := HQ5.out.at 1 (.int .i64 0) rfl; have a2 := HQ5.out.at 2 (.int .i64 0) rfl; have a3 := HQ5.out.at 3 (.int .i64 0) rfl; have b0 := HR5.out.at 0 (.int .i64 0) rfl; have b1 := HR5.out.at 1 (.int .i64 0) rfl; have b2 := HR5.out.at 2 (.int .i64 0) rfl; have f0 := HQ5.out.fr 0 (by decide); have f1 := HQ5.out.fr 1 (by decide); have f2 := HQ5.out.fr 2 (by decide); have f3 := HQ5.out.fr 3 (by decide); have g0 := HR5.out.fr 0 (by decide); have g1 := HR5.out.fr 1 (by decide); have g2 := HR5.out.fr 2 (by decide)))
    refine end_put2 (w := w) (P := bodyPost _ _ _ _ _) [.int .i64 0, .int .i64 0, .int .i64 0, .int .i64 0] [.int .i64 0, .int .i64 0, .int .i64 0] (by rfl) (by rfl) HQ5.out HR5.out HG5.out HN.out.2.1 HN.out.2.2.1 HN.out.2.2.2.2.2 ?_
    intro w9 h5 h6 g9
    have z0 := (Lib.hid h5).out.at 0 (.int .i64 0) rfl; have z1 := (Lib.hid h5).out.at 1 (.int .i64 0) rfl; have z2 := (Lib.hid h5).out.at 2 (.int .i64 0) rfl; have z3 := (Lib.hid h5).out.at 3 (.int .i64 0) rfl
    have y0 := (Lib.hid h6).out.at 0 (.int .i64 0) rfl; have y1 := (Lib.hid h6).out.at 1 (.int .i64 0) rfl; have y2 := (Lib.hid h6).out.at 2 (.int .i64 0) rfl
    exact bodyPost_ret (v := .tuple #[vPo po0, vDu du0, .int .i64 1]) (by simp [results, Try.results41, go_sem, z0, z1, z2, z3, y0, y1, y2, po0]) rfl ⟨rfl, g9⟩)
include CI CP CW CT in
set_option maxRecDepth 100000 in
set_option maxHeartbeats 2000000 in
theorem wk_ok (hB : B = true) (h1 : (e0 != 0) = true ∧ (q3 != 0) = false ∨ (e0 != 0) = false) (h2 : (we != 0) = false) (h4 : (ce != 0) = false) : Calls Try.prog 41 #[.agg #[.slice A1 n1 c1, .slice A2 n2 c2, .slice A3 n3 c3], .agg #[.int .i64 q1, .int .i64 q2, .int .i64 q3, .int .i64 q4]] w (OneP (q1, q2, q3, cv) (q1, j2, wv) 0 w) := by
  subst hB
  have HX0 : Hid (OwnC ((((w.alloc (.cells #[.slice A1 n1 c1, .slice A2 n2 c2, .slice A3 n3 c3] 26)).alloc (.cells #[.int .i64 q1, .int .i64 q2, .int .i64 q3, .int .i64 q4] 34)).alloc (.cells #[.int .i64 0, .int .i64 0, .int .i64 0, .int .i64 0] 34)).alloc (.cells #[.int .i64 0, .int .i64 0, .int .i64 0] 67)) w.heap.size [.slice A1 n1 c1, .slice A2 n2 c2, .slice A3 n3 c3]) := (((OwnC.new w [.slice A1 n1 c1, .slice A2 n2 c2, .slice A3 n3 c3] _ _ rfl).keep (grew_alloc _ _ _)).keep (grew_alloc _ _ _)).keep (grew_alloc _ _ _)
  have HP0 : Hid (OwnC ((((w.alloc (.cells #[.slice A1 n1 c1, .slice A2 n2 c2, .slice A3 n3 c3] 26)).alloc (.cells #[.int .i64 q1, .int .i64 q2, .int .i64 q3, .int .i64 q4] 34)).alloc (.cells #[.int .i64 0, .int .i64 0, .int .i64 0, .int .i64 0] 34)).alloc (.cells #[.int .i64 0, .int .i64 0, .int .i64 0] 67)) (w.heap.size + 1) [.int .i64 q1, .int .i64 q2, .int .i64 q3, .int .i64 q4]) := ((OwnC.new (w.alloc (.cells #[.slice A1 n1 c1, .slice A2 n2 c2, .slice A3 n3 c3] 26)) [.int .i64 q1, .int .i64 q2, .int .i64 q3, .int .i64 q4] _ _ (by simp)).keep (grew_alloc _ _ _)).keep (grew_alloc _ _ _)
  have HQ0 : Hid (OwnC ((((w.alloc (.cells #[.slice A1 n1 c1, .slice A2 n2 c2, .slice A3 n3 c3] 26)).alloc (.cells #[.int .i64 q1, .int .i64 q2, .int .i64 q3, .int .i64 q4] 34)).alloc (.cells #[.int .i64 0, .int .i64 0, .int .i64 0, .int .i64 0] 34)).alloc (.cells #[.int .i64 0, .int .i64 0, .int .i64 0] 67)) (w.heap.size + 1 + 1) [.int .i64 0, .int .i64 0, .int .i64 0, .int .i64 0]) := (OwnC.new ((w.alloc (.cells #[.slice A1 n1 c1, .slice A2 n2 c2, .slice A3 n3 c3] 26)).alloc (.cells #[.int .i64 q1, .int .i64 q2, .int .i64 q3, .int .i64 q4] 34)) [.int .i64 0, .int .i64 0, .int .i64 0, .int .i64 0] _ _ (by simp)).keep (grew_alloc _ _ _)
  have HR0 : Hid (OwnC ((((w.alloc (.cells #[.slice A1 n1 c1, .slice A2 n2 c2, .slice A3 n3 c3] 26)).alloc (.cells #[.int .i64 q1, .int .i64 q2, .int .i64 q3, .int .i64 q4] 34)).alloc (.cells #[.int .i64 0, .int .i64 0, .int .i64 0, .int .i64 0] 34)).alloc (.cells #[.int .i64 0, .int .i64 0, .int .i64 0] 67)) (w.heap.size + 1 + 1 + 1) [.int .i64 0, .int .i64 0, .int .i64 0]) := OwnC.new (((w.alloc (.cells #[.slice A1 n1 c1, .slice A2 n2 c2, .slice A3 n3 c3] 26)).alloc (.cells #[.int .i64 q1, .int .i64 q2, .int .i64 q3, .int .i64 q4] 34)).alloc (.cells #[.int .i64 0, .int .i64 0, .int .i64 0, .int .i64 0] 34)) [.int .i64 0, .int .i64 0, .int .i64 0] _ _ (by simp)
  have HG0 : Hid (Grew w ((((w.alloc (.cells #[.slice A1 n1 c1, .slice A2 n2 c2, .slice A3 n3 c3] 26)).alloc (.cells #[.int .i64 q1, .int .i64 q2, .int .i64 q3, .int .i64 q4] 34)).alloc (.cells #[.int .i64 0, .int .i64 0, .int .i64 0, .int .i64 0] 34)).alloc (.cells #[.int .i64 0, .int .i64 0, .int .i64 0] 67))) := grew_trans (grew_trans (grew_trans (grew_alloc _ _ _) (grew_alloc _ _ _)) (grew_alloc _ _ _)) (grew_alloc _ _ _)
  have HN : Hid (w.heap.size ≤ w.heap.size + 1 ∧ w.heap.size ≤ w.heap.size + 1 + 1 ∧ w.heap.size ≤ w.heap.size + 1 + 1 + 1 ∧ w.heap.size + 1 ≠ w.heap.size + 1 + 1 ∧ w.heap.size + 1 ≠ w.heap.size + 1 + 1 + 1 ∧ w.heap.size + 1 + 1 ≠ w.heap.size + 1 + 1 + 1) := by show _ ∧ _; omega
  go_enter Try.func41, Try.ntmps41
  go_upto_region 1 with (fail)
  generalize ((((w.alloc (.cells #[.slice A1 n1 c1, .slice A2 n2 c2, .slice A3 n3 c3] 26)).alloc (.cells #[.int .i64 q1, .int .i64 q2, .int .i64 q3, .int .i64 q4] 34)).alloc (.cells #[.int .i64 0, .int .i64 0, .int .i64 0, .int .i64 0] 34)).alloc (.cells #[.int .i64 0, .int .i64 0, .int .i64 0] 67)) = w0 at *
  generalize w.heap.size + 1 + 1 + 1 = br at *
  generalize w.heap.size + 1 + 1 = bq at *
  generalize w.heap.size + 1 = bp at *
  have u0 := HX0.out.at 0 (.slice A1 n1 c1) rfl; have u1 := HX0.out.at 1 (.slice A2 n2 c2) rfl; have u2 := HX0.out.at 2 (.slice A3 n3 c3) rfl
  have p0 := HP0.out.at 0 (.int .i64 q1) rfl; have p1 := HP0.out.at 1 (.int .i64 q2) rfl; have p2 := HP0.out.at 2 (.int .i64 q3) rfl; have p3 := HP0.out.at 3 (.int .i64 q4) rfl
  go_upto_region 2 with (go_at_call 70; (with_reducible refine (CI _ HG0.out).mono ?_); rintro e w1 ⟨rfl, hg⟩; have HG1 : Hid (Grew w w1) := grew_trans HG0.out hg; have HP1 := Lib.hid (HP0.out.keep hg); have HQ1 := Lib.hid (HQ0.out.keep hg); have HR1 := Lib.hid (HR0.out.keep hg); clear hg HP0 HQ0 HR0 HG0 HX0 u0 u1 u2 p0 p1 p2 p3)
  have HP2 : Hid (OwnC (w1.alloc (.cells #[.int .i64 j1, .int .i64 j2, .int .i64 j3, .int .i64 j4, .int .i64 j5, .int .i64 j6, .int .i64 j7, .int .i64 j8, .int .i64 j9, .int .i64 j10, .int .i64 j11, .int .i64 j12] 37)) bp [.int .i64 q1, .int .i64 q2, .int .i64 q3, .int .i64 q4]) := HP1.out.keep (grew_alloc _ _ _)
  have HQ2 : Hid (OwnC (w1.alloc (.cells #[.int .i64 j1, .int .i64 j2, .int .i64 j3, .int .i64 j4, .int .i64 j5, .int .i64 j6, .int .i64 j7, .int .i64 j8, .int .i64 j9, .int .i64 j10, .int .i64 j11, .int .i64 j12] 37)) bq [.int .i64 0, .int .i64 0, .int .i64 0, .int .i64 0]) := HQ1.out.keep (grew_alloc _ _ _)
  have HR2 : Hid (OwnC (w1.alloc (.cells #[.int .i64 j1, .int .i64 j2, .int .i64 j3, .int .i64 j4, .int .i64 j5, .int .i64 j6, .int .i64 j7, .int .i64 j8, .int .i64 j9, .int .i64 j10, .int .i64 j11, .int .i64 j12] 37)) br [.int .i64 0, .int .i64 0, .int .i64 0]) := HR1.out.keep (grew_alloc _ _ _)
  have HI2 : Hid (OwnC (w1.alloc (.cells #[.int .i64 j1, .int .i64 j2, .int .i64 j3, .int .i64 j4, .int .i64 j5, .int .i64 j6, .int .i64 j7, .int .i64 j8, .int .i64 j9, .int .i64 j10, .int .i64 j11, .int .i64 j12] 37)) w1.heap.size [.int .i64 j1, .int .i64 j2, .int .i64 j3, .int .i64 j4, .int .i64 j5, .int .i64 j6, .int .i64 j7, .int .i64 j8, .int .i64 j9, .int .i64 j10, .int .i64 j11, .int .i64 j12]) := OwnC.new w1 [.int .i64 j1, .int .i64 j2, .int .i64 j3, .int .i64 j4, .int .i64 j5, .int .i64 j6, .int .i64 j7, .int .i64 j8, .int .i64 j9, .int .i64 j10, .int .i64 j11, .int .i64 j12] _ _ rfl
  have HG2 : Hid (Grew w (w1.alloc (.cells #[.int .i64 j1, .int .i64 j2, .int .i64 j3, .int .i64 j4, .int .i64 j5, .int .i64 j6, .int .i64 j7, .int .i64 j8, .int .i64 j9, .int .i64 j10, .int .i64 j11, .int .i64 j12] 37))) := grew_trans HG1.out (grew_alloc _ _ _)
  have HNi : Hid (w.heap.size ≤ w1.heap.size ∧ bp ≠ w1.heap.size ∧ bq ≠ w1.heap.size ∧ br ≠ w1.heap.size) := ⟨grew_size HG1.out, Nat.ne_of_lt HP1.out.lt, Nat.ne_of_lt HQ1.out.lt, Nat.ne_of_lt HR1.out.lt⟩
  clear HP1 HQ1 HR1 HG1
  generalize (w1.alloc (.cells #[.int .i64 j1, .int .i64 j2, .int .i64 j3, .int .i64 j4, .int .i64 j5, .int .i64 j6, .int .i64 j7, .int .i64 j8, .int .i64 j9, .int .i64 j10, .int .i64 j11, .int .i64 j12] 37)) = w2 at *
  generalize w1.heap.size = bi at *
  have hn1 := HN.out.2.2.2.2.2
  have hn2 := hn1.symm
  have p0 := HP2.out.at 0 (.int .i64 q1) rfl; have p1 := HP2.out.at 1 (.int .i64 q2) rfl; have p2 := HP2.out.at 2 (.int .i64 q3) rfl; have p3 := HP2.out.at 3 (.int .i64 q4) rfl
  have i0 := HI2.out.at 0 (.int .i64 j1) rfl; have i1 := HI2.out.at 1 (.int .i64 j2) rfl; have i2 := HI2.out.at 2 (.int .i64 j3) rfl; have i3 := HI2.out.at 3 (.int .i64 j4) rfl; have i4 := HI2.out.at 4 (.int .i64 j5) rfl; have i5 := HI2.out.at 5 (.int .i64 j6) rfl; have i6 := HI2.out.at 6 (.int .i64 j7) rfl; have i7 := HI2.out.at 7 (.int .i64 j8) rfl; have i8 := HI2.out.at 8 (.int .i64 j9) rfl; have i9 := HI2.out.at 9 (.int .i64 j10) rfl; have i10 := HI2.out.at 10 (.int .i64 j11) rfl; have i11 := HI2.out.at 11 (.int .i64 j12) rfl
  rcases h1 with ⟨h1, h3⟩ | h1
  all_goals
   (go_upto_region 12 with (first
      | (go_at_call 13; (with_reducible refine (CP _).mono ?_); rintro e w3 ⟨rfl, hg⟩; have HG3 : Hid (Grew w w3) := grew_trans HG2.out hg; have HP3 := Lib.hid (HP2.out.keep hg); have HQ3 := Lib.hid (HQ2.out.keep hg); have HR3 := Lib.hid (HR2.out.keep hg); have HI3 := Lib.hid (HI2.out.keep hg); clear hg HP2 HQ2 HR2 HI2 HG2 p0 p1 p2 p3 i0 i1 i2 i3 i4 i5 i6 i7 i8 i9 i10 i11; have p0 := HP3.out.at 0 (.int .i64 q1) rfl; have p1 := HP3.out.at 1 (.int .i64 q2) rfl; have p2 := HP3.out.at 2 (.int .i64 q3) rfl; have p3 := HP3.out.at 3 (.int .i64 q4) rfl; have i1 := HI3.out.at 1 (.int .i64 j2) rfl; have i2 := HI3.out.at 2 (.int .i64 j3) rfl)
      | (go_at_call 10; (with_reducible refine (CW _).mono ?_); rintro e w4 ⟨rfl, hg⟩; have HG4 : Hid (Grew w w4) := grew_trans HG3.out hg; have HP4 := Lib.hid (HP3.out.keep hg); have HQ4 := Lib.hid (HQ3.out.keep hg); have HR4 := Lib.hid (HR3.out.keep hg); have HI4 := Lib.hid (HI3.out.keep hg); clear hg HP3 HQ3 HR3 HI3 HG3 p0 p1 p2 p3 i1 i2; have p0 := HP4.out.at 0 (.int .i64 q1) rfl; have p1 := HP4.out.at 1 (.int .i64 q2) rfl; have p2 := HP4.out.at 2 (.int .i64 q3) rfl; have p3 := HP4.out.at 3 (.int .i64 q4) rfl; have i1 := HI4.out.at 1 (.int .i64 j2) rfl; have i2 := HI4.out.at 2 (.int .i64 j3) rfl)
      | (go_at_call 71; (with_reducible refine (CT _).mono ?_); rintro e w5 ⟨rfl, hg⟩; have HG5 : Hid (Grew w w5) := grew_trans HG4.out hg; have HP5 := Lib.hid (HP4.out.keep hg); have HQ5 := Lib.hid (HQ4.out.keep hg); have HR5 := Lib.hid (HR4.out.keep hg); have HI5 := Lib.hid (HI4.out.keep hg); clear hg HP4 HQ4 HR4 HI4 HG4 p0 p1 p2 p3 i1 i2; have p0 := HP5.out.at 0 (.int .i64 q1) rfl; have p1 := HP5.out.at 1 (.int .i64 q2) rfl; have p2 := HP5.out.at 2 (.int .i64 q3) rfl; have p3 := HP5.out.at 3 (.int .i64 q4) rfl; have i1 := HI5.out.at 1 (.int .i64 j2) rfl; have i2 := HI5.out.at 2 (.int .i64 j3) rfl))
    have HP6 : Hid (OwnC (w5.alloc (.cells #[.int .i64 q1, .int .i64 j2, .int .i64 wv] 67)) bp [.int .i64 q1, .int .i64 q2, .int .i64 q3, .int .i64 q4]) := HP5.out.keep (grew_alloc _ _ _)
    have HQ6 : Hid (OwnC (w5.alloc (.cells #[.int .i64 q1, .int .i64 j2, .int .i64 wv] 67)) bq [.int .i64 0, .int .i64 0, .int .i64 0, .int .i64 0]) := HQ5.out.keep (grew_alloc _ _ _)
    have HR6 : Hid (OwnC (w5.alloc (.cells #[.int .i64 q1, .int .i64 j2, .int .i64 wv] 67)) br [.int .i64 0, .int .i64 0, .int .i64 0]) := HR5.out.keep (grew_alloc _ _ _)
    have HD6 : Hid (OwnC (w5.alloc (.cells #[.int .i64 q1, .int .i64 j2, .int .i64 wv] 67)) w5.heap.size [.int .i64 q1, .int .i64 j2, .int .i64 wv]) := OwnC.new w5 [.int .i64 q1, .int .i64 j2, .int .i64 wv] _ _ rfl
    have HG6 : Hid (Grew w (w5.alloc (.cells #[.int .i64 q1, .int .i64 j2, .int .i64 wv] 67))) := grew_trans HG5.out (grew_alloc _ _ _)
    have HNd : Hid (bp ≠ w5.heap.size ∧ bq ≠ w5.heap.size ∧ br ≠ w5.heap.size) := ⟨Nat.ne_of_lt HP5.out.lt, Nat.ne_of_lt HQ5.out.lt, Nat.ne_of_lt HR5.out.lt⟩
    clear HP5 HQ5 HR5 HG5 HI5 i1 i2 p0 p1 p2 p3
    generalize (w5.alloc (.cells #[.int .i64 q1, .int .i64 j2, .int .i64 wv] 67)) = w6 at *
    generalize w5.heap.size = bd at *
    have p3 := HP6.out.at 3 (.int .i64 q4) rfl
    have f3 := HP6.out.fr 3 (by simp)
    go_upto_region 13 with (fail)
    have HP7 : Hid (OwnC (w6.setCell ⟨bp, 3, none⟩ (.int .i64 cv)) bp [.int .i64 q1, .int .i64 q2, .int .i64 q3, .int .i64 cv]) := HP6.out.set 3 (.int .i64 cv) (by simp)
    have HQ7 : Hid (OwnC (w6.setCell ⟨bp, 3, none⟩ (.int .i64 cv)) bq [.int .i64 0, .int .i64 0, .int .i64 0, .int .i64 0]) := HQ6.out.other ⟨bp, 3, none⟩ _ HN.out.2.2.2.1
    have HR7 : Hid (OwnC (w6.setCell ⟨bp, 3, none⟩ (.int .i64 cv)) br [.int .i64 0, .int .i64 0, .int .i64 0]) := HR6.out.other ⟨bp, 3, none⟩ _ HN.out.2.2.2.2.1
    have HD7 : Hid (OwnC (w6.setCell ⟨bp, 3, none⟩ (.int .i64 cv)) bd [.int .i64 q1, .int .i64 j2, .int .i64 wv]) := HD6.out.other ⟨bp, 3, none⟩ _ HNd.out.1
    have HG7 : Hid (Grew w (w6.setCell ⟨bp, 3, none⟩ (.int .i64 cv))) := grew_set HG6.out _ HN.out.1
    clear HP6 HQ6 HR6 HD6 HG6 p3 f3
    generalize w6.setCell ⟨bp, 3, none⟩ (.int .i64 cv) = w7 at *
    have p0 := HP7.out.at 0 (.int .i64 q1) rfl; have p1 := HP7.out.at 1 (.int .i64 q2) rfl; have p2 := HP7.out.at 2 (.int .i64 q3) rfl; have p3 := HP7.out.at 3 (.int .i64 cv) rfl
    have d0 := HD7.out.at 0 (.int .i64 q1) rfl; have d1 := HD7.out.at 1 (.int .i64 j2) rfl; have d2 := HD7.out.at 2 (.int .i64 wv) rfl
    have a0 := HQ7.out.at 0 (.int .i64 0) rfl; have a1 := HQ7.out.at 1 (.int .i64 0) rfl; have a2 := HQ7.out.at 2 (.int .i64 0) rfl; have a3 := HQ7.out.at 3 (.int .i64 0) rfl; have b0 := HR7.out.at 0 (.int .i64 0) rfl; have b1 := HR7.out.at 1 (.int .i64 0) rfl; have b2 := HR7.out.at 2 (.int .i64 0) rfl; have f0 := HQ7.out.fr 0 (by decide); have f1 := HQ7.out.fr 1 (by decide); have f2 := HQ7.out.fr 2 (by decide); have f3 := HQ7.out.fr 3 (by decide); have g0 := HR7.out.fr 0 (by decide); have g1 := HR7.out.fr 1 (by decide); have g2 := HR7.out.fr 2 (by decide)
    have hn3 := HN.out.2.2.2.1
    have hn4 := hn3.symm
    have hn5 := HN.out.2.2.2.2.1
    have hn6 := hn5.symm
    have hn7 := HNd.out.2.1
    have hn8 := hn7.symm
    have hn9 := HNd.out.2.2
    have hn10 := hn9.symm
    go_region
    refine end_put2 (w := w) (P := fun w' => Exit.then _ _ Exit.normal _ w'.drew) [.int .i64 q1, .int .i64 q2, .int .i64 q3, .int .i64 cv] [.int .i64 q1, .int .i64 j2, .int .i64 wv] (by rfl) (by rfl) HQ7.out HR7.out HG7.out HN.out.2.1 HN.out.2.2.1 HN.out.2.2.2.2.2 ?_
    intro w9 h5 h6 g9
    have h7 := h5.drew
    have h8 := h6.drew
    have g8 := grew_drew g9
    clear h5 h6 g9
    generalize w9.drew = w10 at *
    have HG9 := Lib.hid g8
    have HQ9 := Lib.hid h7
    have HR9 := Lib.hid h8
    clear h7 h8 g8 p0 p1 p2 p3 d0 d1 d2 a0 a1 a2 a3 b0 b1 b2 f0 f1 f2 f3 g0 g1 g2 HP7 HQ7 HR7 HD7 HG7
    apply_assumption
    go_wp2
    have z0 := HQ9.out.at 0 (.int .i64 q1) rfl; have z1 := HQ9.out.at 1 (.int .i64 q2) rfl; have z2 := HQ9.out.at 2 (.int .i64 q3) rfl; have z3 := HQ9.out.at 3 (.int .i64 cv) rfl
    have y0 := HR9.out.at 0 (.int .i64 q1) rfl; have y1 := HR9.out.at 1 (.int .i64 j2) rfl; have y2 := HR9.out.at 2 (.int .i64 wv) rfl
    exact bodyPost_ret (v := .tuple #[vPo (q1, q2, q3, cv), vDu (q1, j2, wv), .int .i64 0]) (by simp [results, Try.results41, go_sem, z0, z1, z2, z3, y0, y1, y2]) rfl ⟨rfl, HG9.out⟩)
end

set_option maxRecDepth 100000 in
set_option maxHeartbeats 2000000 in
theorem markOne_any (r : Rl) (p : Po) (A1 A2 A3 : Option Addr) (n1 n2 n3 c1 c2 c3 : Nat) (w : World) (h : RowE enIn w A2 n2 r.2.1) (hn : n2 ≤ 1000000) (hm : hasI r p = true → mayW p (instOf r p).1.2.2.1 (priceI (instOf r p)) = true) :
    Calls Try.prog 41 #[rlV A1 A2 A3 n1 n2 n3 c1 c2 c3, vPo p] w (OneP (oneP r p) (oneD r p) (stepM r p) w) := by
  have CI := fun w' (g : Grew w w') => pfindIn_any A1 A2 A3 n1 n2 n3 c1 c2 c3 r.2.1 p.2.1 w' (h.keep g) hn (fun w2 h2 => firstIn_any A2 n2 c2 r.2.1 p.2.1 w2 h2 hn)
  have CP := fun w' => price_any (instOf r p) w'
  have CW := fun w' => worth_any p (instOf r p).1.2.2.1 (priceI (instOf r p)) w'
  have CT := fun w' => times_any p.2.2.1 (priceI (instOf r p)) w'
  have e1 : findL noIn in0 r.2.1 p.2.1 = instOf r p := rfl
  have e2 : hasL noIn r.2.1 p.2.1 = hasI r p := rfl
  rw [e1, e2] at CI
  have hP : oneP r p = if stepM r p = 0 then (p.1, p.2.1, p.2.2.1, costP r p) else po0 := rfl
  have hD : oneD r p = if stepM r p = 0 then dueP r p else du0 := rfl
  have hdue : dueP r p = (p.1, (instOf r p).1.2.1, wonP r p) := rfl
  have hcost : costP r p = p.2.2.1 * priceI (instOf r p) := rfl
  have hwon : wonP r p = worthV p (instOf r p).1.2.2.1 (priceI (instOf r p)) := rfl
  cases hB : hasI r p
  · have h0 := one_none hB
    rw [hP, hD, h0, if_neg (by decide), if_neg (by decide)]
    exact wk_no (q1 := p.1) (q3 := p.2.2.1) (q4 := p.2.2.2) (CI := CI) (hB := hB)
  · have hmay := hm hB
    have hpr := priceE_iff (instOf r p)
    have hpe : priceE (instOf r p) = 20 ∨ priceE (instOf r p) = 0 := by unfold priceE; split <;> simp
    by_cases hp : priceI (instOf r p) = 0 ∧ p.2.2.1 ≠ 0
    · have h0 := one_price hB hp
      have h20 : priceE (instOf r p) = 20 := by
        rcases hpe with h | h
        · exact h
        · exact absurd hp.1 (hpr.1 h)
      rw [hP, hD, h0, if_neg (by decide), if_neg (by decide)]
      rw [h20] at CP
      exact wk_pr (q1 := p.1) (q4 := p.2.2.2) (CI := CI) (CP := CP) (hB := hB) (h1 := by decide) (h2 := by simpa using hp.2)
    · have hq : (priceE (instOf r p) != 0) = true ∧ (p.2.2.1 != 0) = false ∨ (priceE (instOf r p) != 0) = false := by
        by_cases h3 : priceE (instOf r p) = 0
        · right; simp [h3]
        · left
          refine ⟨by simpa using h3, ?_⟩
          have h4 : priceI (instOf r p) = 0 := Classical.not_not.1 fun h5 => h3 (hpr.2 h5)
          have h5 : p.2.2.1 = 0 := Classical.not_not.1 fun h6 => hp ⟨h4, h6⟩
          simp [h5]
      have hmo := may_parts hmay
      have hall : [p.2.2.1, priceI (instOf r p)].all isMoney = true := by simp [hmo.1, hmo.2]
      have hwe := worthE_may hmay
      rw [mulV, mulE, hall, if_pos rfl, if_pos rfl, ← hcost] at CT
      rw [← hwon] at hwe
      by_cases hb : (isMoney (wonP r p) && isMoney (costP r p)) = true
      · have h0 := one_ok hB hp hb
        rw [hP, hD, h0, if_pos rfl, if_pos rfl, hdue]
        rw [Bool.and_eq_true] at hb
        have hwn := worthN_may hmay (by rw [← hwon]; exact hb.1)
        rw [← hwon] at hwn
        rw [hwe, if_pos hb.1, hwn] at CW
        rw [capV_in hb.2, capE_in hb.2] at CT
        exact wk_ok (CI := CI) (CP := CP) (CW := CW) (CT := CT) (hB := hB) (h1 := hq) (h2 := by decide) (h4 := by decide)
      · have hb := (Bool.not_eq_true _).mp hb
        have h0 := one_big hB hp hb
        rw [hP, hD, h0, if_neg (by decide), if_neg (by decide)]
        refine wk_big (CI := CI) (CP := CP) (CW := CW) (CT := CT) (hB := hB) (h1 := hq) (h2 := ?_)
        rw [hwe]
        cases hw : isMoney (wonP r p)
        · left; rfl
        · right
          rw [hw, Bool.true_and] at hb
          rw [capE_out hb]
          exact ⟨rfl, rfl⟩
end Go.Proofs.Ytlbfljkhlkjcbaa.NumK
namespace Go.Proofs.Ytlbfljkhlkjcbaa.NumK
open Go.RowKit

/-! ### Int: as money -/



set_option maxHeartbeats 1000000 in
theorem refInt_money (x : Int) (w : World) (h : isMoney x = true) :
    Calls Try.prog 37 #[(.agg #[.int .i64 (hi64 (x)), .int .u64 (lo64 (x))])] w fun e w' => e = .returned (.tuple #[.int .i64 (intV x), .bool (isMoney x)]) ∧ Grew w w' := by
  have hx := (isMoney_iff x).1 h
  have b1 := lo_bounds x
  have L : wrap64 (lo64 x) = x := by unfold wrap64 lo64; omega
  have C1 := fun w => of_any x w (by omega)
  have C2 := fun w => refRight_any x w
  rw [h] at C2
  have E1 := Lib.hid (intV_in h)
  have E2 := Lib.hid h
  clear h hx b1
  generalize hi64 x = hh at *
  generalize lo64 x = l at *
  go_enter Try.func37, Try.ntmps37
  go_wp2
  go_region_held3 (fun w' => w'.cell? ⟨w.heap.size, 0, none⟩ = some (.int .i64 hh) ∧ w'.cell? ⟨w.heap.size, 1, none⟩ = some (.int .u64 l) ∧ w.heap.size < w'.heap.size ∧ Grew w w')
    (first
      | (exact keep2 (by assumption) (by first | assumption | simp) (by first | assumption | simp) (by first | assumption | simp) (by first | assumption | exact grew_drew (grew_alloc _ _ _)))
      | (refine ⟨by simp, by simp, by simp, grew_drew (grew_alloc _ _ _)⟩))
    (first
      | (go_at_call 25; refine (C1 _).mono ?_; rintro e w1 ⟨rfl, hg1⟩)
      | (go_at_call 35; refine (C2 _).mono ?_; rintro e w2 ⟨rfl, rfl⟩))
  rename_i hS
  go_wp2
  go_ret2
  exact ⟨ret_vb E1.out.symm E2.out.symm, hS.2.2.2⟩

set_option maxHeartbeats 1000000 in
theorem refInt_far (x : Int) (w : World) (h : isMoney x = false) (hf : hi64 (wrap64 (lo64 x)) ≠ hi64 x) :
    Calls Try.prog 37 #[(.agg #[.int .i64 (hi64 (x)), .int .u64 (lo64 (x))])] w fun e w' => e = .returned (.tuple #[.int .i64 (intV x), .bool (isMoney x)]) ∧ Grew w w' := by
  have b1 := lo_bounds x
  have bn : -9223372036854775808 ≤ wrap64 (lo64 x) ∧ wrap64 (lo64 x) ≤ 9223372036854775807 := by unfold wrap64; omega
  have hl : lo64 (wrap64 (lo64 x)) = lo64 x := by unfold wrap64 lo64; omega
  have C1 := fun w => of_any (wrap64 (lo64 x)) w bn
  have E1 := Lib.hid (intV_out h)
  have E2 := Lib.hid h
  have d1 : (hi64 (wrap64 (lo64 x)) == hi64 x) = false := by simpa using hf
  have d2 : (hi64 (wrap64 (lo64 x)) != hi64 x) = true := by simpa using hf
  have d3 : decide (hi64 (wrap64 (lo64 x)) = hi64 x) = false := by simpa using hf
  rw [hl] at C1
  clear h b1 hl hf
  generalize hi64 (wrap64 (lo64 x)) = hn at *
  generalize hi64 x = hh at *
  generalize lo64 x = l at *
  go_enter Try.func37, Try.ntmps37
  go_wp2
  first
  | (go_region_with (first
      | (go_at_call 25; refine (C1 _).mono ?_; rintro e w1 ⟨rfl, hg1⟩; have kc := keep2 (v0 := .int .i64 hh) (v1 := .int .u64 l) hg1 (by simp) (by simp) (by simp) (grew_drew (grew_alloc _ _ _)); obtain ⟨k1, k2, k3, k4⟩ := kc)))
  | fail
  all_goals
    go_wp2
    go_ret2
    exact ⟨ret_vb E1.out.symm E2.out.symm, by assumption⟩

set_option maxHeartbeats 1000000 in
theorem refInt_near (x : Int) (w : World) (h : isMoney x = false) (L : wrap64 (lo64 x) = x) :
    Calls Try.prog 37 #[(.agg #[.int .i64 (hi64 (x)), .int .u64 (lo64 (x))])] w fun e w' => e = .returned (.tuple #[.int .i64 (intV x), .bool (isMoney x)]) ∧ Grew w w' := by
  have b1 := lo_bounds x
  have bn : -9223372036854775808 ≤ wrap64 (lo64 x) ∧ wrap64 (lo64 x) ≤ 9223372036854775807 := by unfold wrap64; omega
  rw [L] at bn
  have C1 := fun w => of_any x w bn
  have C2 := fun w => refRight_any x w
  rw [h] at C2
  have E1 := Lib.hid (intV_out h)
  have E2 := Lib.hid h
  clear h b1
  generalize hi64 x = hh at *
  generalize lo64 x = l at *
  go_enter Try.func37, Try.ntmps37
  go_wp2
  go_region_held3 (fun w' => w'.cell? ⟨w.heap.size, 0, none⟩ = some (.int .i64 hh) ∧ w'.cell? ⟨w.heap.size, 1, none⟩ = some (.int .u64 l) ∧ w.heap.size < w'.heap.size ∧ Grew w w')
    (first
      | (exact keep2 (by assumption) (by first | assumption | simp) (by first | assumption | simp) (by first | assumption | simp) (by first | assumption | exact grew_drew (grew_alloc _ _ _)))
      | (refine ⟨by simp, by simp, by simp, grew_drew (grew_alloc _ _ _)⟩))
    (first
      | (go_at_call 25; refine (C1 _).mono ?_; rintro e w1 ⟨rfl, hg1⟩)
      | (go_at_call 35; refine (C2 _).mono ?_; rintro e w2 ⟨rfl, rfl⟩))
  rename_i hS
  go_wp2
  go_ret2
  exact ⟨ret_vb E1.out.symm E2.out.symm, hS.2.2.2⟩

theorem refInt_any (x : Int) (w : World) :
    Calls Try.prog 37 #[(.agg #[.int .i64 (hi64 (x)), .int .u64 (lo64 (x))])] w fun e w' => e = .returned (.tuple #[.int .i64 (intV x), .bool (isMoney x)]) ∧ Grew w w' := by
  by_cases h : isMoney x = true
  · exact refInt_money x w h
  · simp only [Bool.not_eq_true] at h
    by_cases hf : hi64 (wrap64 (lo64 x)) = hi64 x
    · refine refInt_near x w h ?_
      have b1 := lo_bounds x
      have e1 := w_eq x
      have e2 := w_eq (wrap64 (lo64 x))
      have hl : lo64 (wrap64 (lo64 x)) = lo64 x := by unfold wrap64 lo64; omega
      rw [hf, hl] at e2
      omega
    · exact refInt_far x w h hf
end Go.Proofs.Ytlbfljkhlkjcbaa.NumK
namespace Go.Proofs.Ytlbfljkhlkjcbaa.NumK
open Go.RowKit

set_option maxRecDepth 100000 in
set_option maxHeartbeats 2000000 in
theorem refSum_any (A : Option Addr) (n c : Nat) (xs : List Int) (w : World) (hz : Wides w A n xs) (hw : ∀ x ∈ xs, isWide x = true) (hn : n ≤ 1000000) :
    Calls Try.prog 27 #[.slice A n c] w fun e w' => e = .returned (.tuple #[(.agg #[.int .i64 (hi64 (wsV xs.sum)), .int .u64 (lo64 (wsV xs.sum))]), .bool (isWide xs.sum)]) ∧ Grew w w' := by
  have HZ := Lib.hid hz
  have HW := Lib.hid hw
  clear hz hw
  go_enter Try.func27, Try.ntmps27
  go_wp2
  go_loop [4, 5, 6, 7] (fun t h l i => ∃ (k : Nat) (T H L : Int), k ≤ n ∧ i = .int .i64 k ∧ t = .int .i64 T ∧ h = .int .u64 H ∧ l = .int .u64 L ∧ Hid (T * 340282366920938463463374607431768211456 + H * 18446744073709551616 + L = (xs.take k).sum) ∧
      0 ≤ H ∧ H < 18446744073709551616 ∧ 0 ≤ L ∧ L < 18446744073709551616 ∧ -(k : Int) ≤ T ∧ T ≤ k) (fun _ _ _ i => n - (intOf i).toNat)
  case atStart => exact ⟨0, 0, 0, 0, Nat.zero_le _, rfl, rfl, rfl, rfl, rfl, by omega, by omega, by omega, by omega, by omega, by omega⟩
  case round =>
    obtain ⟨k, T, H, L, hk, rfl, rfl, rfl, rfl, HS, h0, h1, l0, l1, t0, t1⟩ := hrel
    by_cases hlt : k < n
    · obtain ⟨b, o, rfl, hb, hc⟩ := HZ.out.2 (by omega)
      obtain ⟨hc0, hc1⟩ := hc k hlt
      have hst := sum_take_succ xs k (by have := HZ.out.1; omega)
      have hwx : isWide (xs.getD k 0) = true := HW.out _ (by rw [List.getD_eq_getElem?_getD, List.getElem?_eq_getElem (by have := HZ.out.1; omega)]; exact List.getElem_mem _)
      generalize xs.getD k 0 = x at *
      have bx := lo_bounds x
      have bh := hi_bounds x hwx
      have ex := w_eq x
      obtain ⟨s1, hs1⟩ : ∃ s, s = (L + lo64 x + 0) % 18446744073709551616 := ⟨_, rfl⟩
      obtain ⟨d1, hd1⟩ : ∃ s, s = (L + lo64 x + 0) / 18446744073709551616 := ⟨_, rfl⟩
      have A1 := add64_named L (lo64 x) 0 s1 d1 (by omega) (by omega) (by omega) (by omega) hs1 hd1
      have ew : 0 ≤ IntKind.u64.wrap (hi64 x) ∧ IntKind.u64.wrap (hi64 x) < 18446744073709551616 ∧ (hi64 x < 0 → IntKind.u64.wrap (hi64 x) = hi64 x + 18446744073709551616) ∧ (0 ≤ hi64 x → IntKind.u64.wrap (hi64 x) = hi64 x) := by rw [IntKind.wrap_u64]; omega
      obtain ⟨s2, hs2⟩ : ∃ s, s = (H + IntKind.u64.wrap (hi64 x) + d1) % 18446744073709551616 := ⟨_, rfl⟩
      obtain ⟨d2, hd2⟩ : ∃ s, s = (H + IntKind.u64.wrap (hi64 x) + d1) / 18446744073709551616 := ⟨_, rfl⟩
      have A2 := add64_named H (IntKind.u64.wrap (hi64 x)) d1 s2 d2 (by omega) (by omega) (by omega) (by omega) hs2 hd2
      have f1 : 0 ≤ s1 ∧ s1 < 18446744073709551616 := by omega
      have f2 : 0 ≤ s2 ∧ s2 < 18446744073709551616 := by omega
      have f3 : 0 ≤ d2 ∧ d2 ≤ 1 := by omega
      have HN : Hid ((hi64 x < 0 → (T + d2 - 1) * 340282366920938463463374607431768211456 + s2 * 18446744073709551616 + s1 = (xs.take (k + 1)).sum) ∧ (0 ≤ hi64 x → (T + d2) * 340282366920938463463374607431768211456 + s2 * 18446744073709551616 + s1 = (xs.take (k + 1)).sum)) := by
        have := HS.out
        rw [hst]
        exact ⟨fun _ => by omega, fun _ => by omega⟩
      generalize eh : IntKind.u64.wrap (hi64 x) = hw at *
      clear hst hwx bx bh ex ew hs1 hd1 hs2 hd2 hc
      generalize hi64 x = hh at *
      generalize lo64 x = ll at *
      obtain ⟨f1, f2'⟩ := f1
      obtain ⟨f3', f4⟩ := f2
      obtain ⟨f5, f6⟩ := f3
      by_cases hs : hh < 0
      · go_wp2_with (first | simp only [A1] | simp only [A2])
        go_round
        case rel => exact ⟨k + 1, T + d2 - 1, s2, s1, by omega, by go_num, rfl, rfl, rfl, HN.out.1 hs, by omega, by omega, by omega, by omega, by omega, by omega⟩
        case measure => simp [intOf]; omega
      · go_wp2_with (first | simp only [A1] | simp only [A2])
        go_round
        case rel => exact ⟨k + 1, T + d2, s2, s1, by omega, by go_num, rfl, rfl, rfl, HN.out.2 (by omega), by omega, by omega, by omega, by omega, by omega, by omega⟩
        case measure => simp [intOf]; omega
    · have hkn : k = n := by omega
      subst hkn
      have ht : xs.take k = xs := List.take_of_length_le (by have := HZ.out.1; omega)
      have hS := HS.out
      rw [ht] at hS
      have hwr : wrap64 H = if H < 9223372036854775808 then H else H - 18446744073709551616 := by unfold wrap64; split <;> omega
      have hwid : isWide xs.sum = true ↔ (T = 0 ∧ H < 9223372036854775808) ∨ (T = -1 ∧ ¬ H < 9223372036854775808) := by rw [isWide_iff]; omega
      have hval : (T = 0 ∧ H < 9223372036854775808) ∨ (T = -1 ∧ ¬ H < 9223372036854775808) → wrap64 H = hi64 xs.sum ∧ L = lo64 xs.sum := fun h => by
        have := w_unique xs.sum (wrap64 H) L (by rw [hwr]; split <;> omega) l0 l1
        exact ⟨this.1.symm, this.2.symm⟩
      have hz0 : (0 : Int) = hi64 0 ∧ (0 : Int) = lo64 0 := by decide
      have HD := Lib.hid hwid
      have HV := Lib.hid hval
      have HZ0 := Lib.hid hz0
      have hg : (H < 9223372036854775808 → 0 ≤ wrap64 H) ∧ (¬ H < 9223372036854775808 → wrap64 H < 0) := by rw [hwr]; split <;> omega
      clear ht hS hwr hwid hval hz0 hlt t0 t1 h0 h1 l0 l1
      generalize eg : wrap64 H = g at *
      by_cases c1 : T = 0
      · subst c1
        by_cases c2 : H < 9223372036854775808
        · have Y := Lib.hid (HD.out.2 (Or.inl ⟨rfl, c2⟩))
          have V := Lib.hid (HV.out (Or.inl ⟨rfl, c2⟩))
          have hh := hg.1 c2
          clear hg c2
          go_wp2
          exact bodyPost_ret (v := .tuple #[.agg #[.int .i64 g, .int .u64 L], .bool true]) (by simp [results, Try.results27, go_sem]) rfl ⟨ret_wb (by rw [wsV, if_pos Y.out]; exact V.out.1) (by rw [wsV, if_pos Y.out]; exact V.out.2) Y.out.symm, grew_alloc _ _ _⟩
        · have Y : Hid (isWide xs.sum = false) := by show _ = _; rw [← Bool.not_eq_true, HD.out]; omega
          have hh := hg.2 c2
          clear hg c2
          go_wp2
          exact bodyPost_ret (v := .tuple #[.agg #[.int .i64 0, .int .u64 0], .bool false]) (by simp [results, Try.results27, go_sem]) rfl ⟨ret_wb (by rw [wsV, Y.out]; exact HZ0.out.1) (by rw [wsV, Y.out]; exact HZ0.out.2) Y.out.symm, grew_alloc _ _ _⟩
      · have d1 : (T == 0) = false := by simpa using c1
        by_cases c3 : T = -1
        · subst c3
          by_cases c2 : H < 9223372036854775808
          · have Y : Hid (isWide xs.sum = false) := by show _ = _; rw [← Bool.not_eq_true, HD.out]; omega
            have hh := hg.1 c2
            clear hg c2 c1
            go_wp2
            exact bodyPost_ret (v := .tuple #[.agg #[.int .i64 0, .int .u64 0], .bool false]) (by simp [results, Try.results27, go_sem]) rfl ⟨ret_wb (by rw [wsV, Y.out]; exact HZ0.out.1) (by rw [wsV, Y.out]; exact HZ0.out.2) Y.out.symm, grew_alloc _ _ _⟩
          · have Y := Lib.hid (HD.out.2 (Or.inr ⟨rfl, c2⟩))
            have V := Lib.hid (HV.out (Or.inr ⟨rfl, c2⟩))
            have hh := hg.2 c2
            clear hg c2 c1
            go_wp2
            exact bodyPost_ret (v := .tuple #[.agg #[.int .i64 g, .int .u64 L], .bool true]) (by simp [results, Try.results27, go_sem]) rfl ⟨ret_wb (by rw [wsV, if_pos Y.out]; exact V.out.1) (by rw [wsV, if_pos Y.out]; exact V.out.2) Y.out.symm, grew_alloc _ _ _⟩
        · have Y : Hid (isWide xs.sum = false) := by show _ = _; rw [← Bool.not_eq_true, HD.out]; omega
          have d2 : (T == -1) = false := by simpa using c3
          clear hg c1 c3
          go_wp2
          exact bodyPost_ret (v := .tuple #[.agg #[.int .i64 0, .int .u64 0], .bool false]) (by simp [results, Try.results27, go_sem]) rfl ⟨ret_wb (by rw [wsV, Y.out]; exact HZ0.out.1) (by rw [wsV, Y.out]; exact HZ0.out.2) Y.out.symm, grew_alloc _ _ _⟩
end Go.Proofs.Ytlbfljkhlkjcbaa.NumK
