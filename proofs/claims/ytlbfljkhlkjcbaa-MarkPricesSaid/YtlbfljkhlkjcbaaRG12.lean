/- mark.Run, walked. -/
import Derived.Test.YtlbfljkhlkjcbaaRG11
import Derived.Deep.RegionHeld3
import Derived.Test.YtlbfljkhlkjcbaaRG5
import Derived.Test.YtlbfljkhlkjcbaaRG3
import Derived.Test.YtlbfljkhlkjcbaaRG10
namespace Go.Proofs.Ytlbfljkhlkjcbaa.NumK
open Go.RowKit
set_option linter.unusedVariables false

section
variable (nx : Int) (A1 A2 A3 B1 B2 : Option Addr) (n1 n2 n3 c1 c2 c3 m1 m2 d1 d2 : Nat) (w : World) (PP : Ending → World → Prop)
set_option maxRecDepth 100000 in
set_option maxHeartbeats 4000000 in
theorem run_no1 (runN k1 : Int) (HNO : ∀ n w', n ≠ 0 → runN = n → Grew w w' → PP (.returned (.tuple #[.agg #[.int .i64 0, .slice none 0 0, .slice none 0 0], .slice none 0 0, .int .i64 n])) w') (CK : ∀ w', Grew w w' → Calls Try.prog 38 #[.agg #[.slice A1 n1 c1, .slice A2 n2 c2, .slice A3 n3 c3]] w' fun e w'' => e = .returned (.int .i64 k1) ∧ Grew w' w'') (h1 : (k1 != 0) = true) (hk : runN = k1) : Calls Try.prog 17 #[.agg #[.slice A1 n1 c1, .slice A2 n2 c2, .slice A3 n3 c3], .agg #[.int .i64 nx, .slice B1 m1 d1, .slice B2 m2 d2]] w PP := by
  have hk1 : k1 ≠ 0 := by simpa using h1
  have HK := Lib.hid (And.intro hk1 hk)
  clear hk1 hk
  have HR0 : Hid (OwnC (((w.alloc (.cells #[.slice A1 n1 c1, .slice A2 n2 c2, .slice A3 n3 c3] 26)).alloc (.cells #[.int .i64 nx, .slice B1 m1 d1, .slice B2 m2 d2] 30)).alloc (.cells #[.int .i64 0, .slice none 0 0, .slice none 0 0] 30)) w.heap.size [.slice A1 n1 c1, .slice A2 n2 c2, .slice A3 n3 c3]) := ((OwnC.new w [.slice A1 n1 c1, .slice A2 n2 c2, .slice A3 n3 c3] _ _ rfl).keep (grew_alloc _ _ _)).keep (grew_alloc _ _ _)
  have HB0 : Hid (OwnC (((w.alloc (.cells #[.slice A1 n1 c1, .slice A2 n2 c2, .slice A3 n3 c3] 26)).alloc (.cells #[.int .i64 nx, .slice B1 m1 d1, .slice B2 m2 d2] 30)).alloc (.cells #[.int .i64 0, .slice none 0 0, .slice none 0 0] 30)) (w.heap.size + 1) [.int .i64 nx, .slice B1 m1 d1, .slice B2 m2 d2]) := (OwnC.new (w.alloc (.cells #[.slice A1 n1 c1, .slice A2 n2 c2, .slice A3 n3 c3] 26)) [.int .i64 nx, .slice B1 m1 d1, .slice B2 m2 d2] _ _ (by simp)).keep (grew_alloc _ _ _)
  have HZ0 : Hid (OwnC (((w.alloc (.cells #[.slice A1 n1 c1, .slice A2 n2 c2, .slice A3 n3 c3] 26)).alloc (.cells #[.int .i64 nx, .slice B1 m1 d1, .slice B2 m2 d2] 30)).alloc (.cells #[.int .i64 0, .slice none 0 0, .slice none 0 0] 30)) (w.heap.size + 1 + 1) [.int .i64 0, .slice none 0 0, .slice none 0 0]) := OwnC.new ((w.alloc (.cells #[.slice A1 n1 c1, .slice A2 n2 c2, .slice A3 n3 c3] 26)).alloc (.cells #[.int .i64 nx, .slice B1 m1 d1, .slice B2 m2 d2] 30)) [.int .i64 0, .slice none 0 0, .slice none 0 0] _ _ (by simp)
  have HG0 : Hid (Grew w (((w.alloc (.cells #[.slice A1 n1 c1, .slice A2 n2 c2, .slice A3 n3 c3] 26)).alloc (.cells #[.int .i64 nx, .slice B1 m1 d1, .slice B2 m2 d2] 30)).alloc (.cells #[.int .i64 0, .slice none 0 0, .slice none 0 0] 30))) := grew_trans (grew_trans (grew_alloc _ _ _) (grew_alloc _ _ _)) (grew_alloc _ _ _)
  have HN : Hid (w.heap.size ≤ w.heap.size + 1 ∧ w.heap.size ≤ w.heap.size + 1 + 1 ∧ w.heap.size ≠ w.heap.size + 1 ∧ w.heap.size ≠ w.heap.size + 1 + 1 ∧ w.heap.size + 1 ≠ w.heap.size + 1 + 1) := by show _ ∧ _; omega
  go_enter Try.func17, Try.ntmps17
  go_upto_region 1 with (fail)
  generalize (((w.alloc (.cells #[.slice A1 n1 c1, .slice A2 n2 c2, .slice A3 n3 c3] 26)).alloc (.cells #[.int .i64 nx, .slice B1 m1 d1, .slice B2 m2 d2] 30)).alloc (.cells #[.int .i64 0, .slice none 0 0, .slice none 0 0] 30)) = w0 at *
  generalize w.heap.size + 1 + 1 = bz at *
  generalize w.heap.size + 1 = bb at *
  have r0 := HR0.out.at 0 (.slice A1 n1 c1) rfl; have r1 := HR0.out.at 1 (.slice A2 n2 c2) rfl; have r2 := HR0.out.at 2 (.slice A3 n3 c3) rfl
  go_wp2_with (go_at_call 38; (with_reducible refine (CK _ HG0.out).mono ?_); rintro e w1 ⟨rfl, hg⟩; have HG1 : Hid (Grew w w1) := grew_trans HG0.out hg; have HR1 := Lib.hid (HR0.out.keep hg); have HB1 := Lib.hid (HB0.out.keep hg); have HZ1 := Lib.hid (HZ0.out.keep hg); clear hg r0 r1 r2 HR0 HB0 HZ0 HG0; have z0 := HZ1.out.at 0 (.int .i64 0) rfl; have z1 := HZ1.out.at 1 (.slice none 0 0) rfl; have z2 := HZ1.out.at 2 (.slice none 0 0) rfl; have f0 := HZ1.out.fr 0 (by simp); have f1 := HZ1.out.fr 1 (by simp); have f2 := HZ1.out.fr 2 (by simp))
  refine end_put (w := w) (P := bodyPost _ _ _ _ _) [.int .i64 0, .slice none 0 0, .slice none 0 0] (by rfl) HZ1.out HG1.out HN.out.2.1 ?_
  intro w9 h5 g9
  have y0 := (Lib.hid h5).out.at 0 (.int .i64 0) rfl; have y1 := (Lib.hid h5).out.at 1 (.slice none 0 0) rfl; have y2 := (Lib.hid h5).out.at 2 (.slice none 0 0) rfl
  exact bodyPost_ret (v := .tuple #[.agg #[.int .i64 0, .slice none 0 0, .slice none 0 0], .slice none 0 0, .int .i64 k1]) (by simp [results, Try.results17, go_sem, y0, y1, y2]) rfl (HNO _ _ HK.out.1 HK.out.2 g9)
set_option maxRecDepth 100000 in
set_option maxHeartbeats 4000000 in
theorem run_no2 (runN k2 : Int) (HNO : ∀ n w', n ≠ 0 → runN = n → Grew w w' → PP (.returned (.tuple #[.agg #[.int .i64 0, .slice none 0 0, .slice none 0 0], .slice none 0 0, .int .i64 n])) w') (CK : ∀ w', Grew w w' → Calls Try.prog 38 #[.agg #[.slice A1 n1 c1, .slice A2 n2 c2, .slice A3 n3 c3]] w' fun e w'' => e = .returned (.int .i64 0) ∧ Grew w' w'') (CB : ∀ w', Grew w w' → Calls Try.prog 39 #[.agg #[.int .i64 nx, .slice B1 m1 d1, .slice B2 m2 d2]] w' fun e w'' => e = .returned (.int .i64 k2) ∧ Grew w' w'') (h2 : (k2 != 0) = true) (hk : runN = k2) : Calls Try.prog 17 #[.agg #[.slice A1 n1 c1, .slice A2 n2 c2, .slice A3 n3 c3], .agg #[.int .i64 nx, .slice B1 m1 d1, .slice B2 m2 d2]] w PP := by
  have hk1 : k2 ≠ 0 := by simpa using h2
  have HK := Lib.hid (And.intro hk1 hk)
  clear hk1 hk
  have HR0 : Hid (OwnC (((w.alloc (.cells #[.slice A1 n1 c1, .slice A2 n2 c2, .slice A3 n3 c3] 26)).alloc (.cells #[.int .i64 nx, .slice B1 m1 d1, .slice B2 m2 d2] 30)).alloc (.cells #[.int .i64 0, .slice none 0 0, .slice none 0 0] 30)) w.heap.size [.slice A1 n1 c1, .slice A2 n2 c2, .slice A3 n3 c3]) := ((OwnC.new w [.slice A1 n1 c1, .slice A2 n2 c2, .slice A3 n3 c3] _ _ rfl).keep (grew_alloc _ _ _)).keep (grew_alloc _ _ _)
  have HB0 : Hid (OwnC (((w.alloc (.cells #[.slice A1 n1 c1, .slice A2 n2 c2, .slice A3 n3 c3] 26)).alloc (.cells #[.int .i64 nx, .slice B1 m1 d1, .slice B2 m2 d2] 30)).alloc (.cells #[.int .i64 0, .slice none 0 0, .slice none 0 0] 30)) (w.heap.size + 1) [.int .i64 nx, .slice B1 m1 d1, .slice B2 m2 d2]) := (OwnC.new (w.alloc (.cells #[.slice A1 n1 c1, .slice A2 n2 c2, .slice A3 n3 c3] 26)) [.int .i64 nx, .slice B1 m1 d1, .slice B2 m2 d2] _ _ (by simp)).keep (grew_alloc _ _ _)
  have HZ0 : Hid (OwnC (((w.alloc (.cells #[.slice A1 n1 c1, .slice A2 n2 c2, .slice A3 n3 c3] 26)).alloc (.cells #[.int .i64 nx, .slice B1 m1 d1, .slice B2 m2 d2] 30)).alloc (.cells #[.int .i64 0, .slice none 0 0, .slice none 0 0] 30)) (w.heap.size + 1 + 1) [.int .i64 0, .slice none 0 0, .slice none 0 0]) := OwnC.new ((w.alloc (.cells #[.slice A1 n1 c1, .slice A2 n2 c2, .slice A3 n3 c3] 26)).alloc (.cells #[.int .i64 nx, .slice B1 m1 d1, .slice B2 m2 d2] 30)) [.int .i64 0, .slice none 0 0, .slice none 0 0] _ _ (by simp)
  have HG0 : Hid (Grew w (((w.alloc (.cells #[.slice A1 n1 c1, .slice A2 n2 c2, .slice A3 n3 c3] 26)).alloc (.cells #[.int .i64 nx, .slice B1 m1 d1, .slice B2 m2 d2] 30)).alloc (.cells #[.int .i64 0, .slice none 0 0, .slice none 0 0] 30))) := grew_trans (grew_trans (grew_alloc _ _ _) (grew_alloc _ _ _)) (grew_alloc _ _ _)
  have HN : Hid (w.heap.size ≤ w.heap.size + 1 ∧ w.heap.size ≤ w.heap.size + 1 + 1 ∧ w.heap.size ≠ w.heap.size + 1 ∧ w.heap.size ≠ w.heap.size + 1 + 1 ∧ w.heap.size + 1 ≠ w.heap.size + 1 + 1) := by show _ ∧ _; omega
  go_enter Try.func17, Try.ntmps17
  go_upto_region 1 with (fail)
  generalize (((w.alloc (.cells #[.slice A1 n1 c1, .slice A2 n2 c2, .slice A3 n3 c3] 26)).alloc (.cells #[.int .i64 nx, .slice B1 m1 d1, .slice B2 m2 d2] 30)).alloc (.cells #[.int .i64 0, .slice none 0 0, .slice none 0 0] 30)) = w0 at *
  generalize w.heap.size + 1 + 1 = bz at *
  generalize w.heap.size + 1 = bb at *
  have r0 := HR0.out.at 0 (.slice A1 n1 c1) rfl; have r1 := HR0.out.at 1 (.slice A2 n2 c2) rfl; have r2 := HR0.out.at 2 (.slice A3 n3 c3) rfl
  go_wp2_with (first
    | (go_at_call 38; (with_reducible refine (CK _ HG0.out).mono ?_); rintro e w1 ⟨rfl, hg⟩; have HG1 : Hid (Grew w w1) := grew_trans HG0.out hg; have HR1 := Lib.hid (HR0.out.keep hg); have HB1 := Lib.hid (HB0.out.keep hg); have HZ1 := Lib.hid (HZ0.out.keep hg); clear hg r0 r1 r2 HR0 HB0 HZ0 HG0; have b0 := HB1.out.at 0 (.int .i64 nx) rfl; have b1 := HB1.out.at 1 (.slice B1 m1 d1) rfl; have b2 := HB1.out.at 2 (.slice B2 m2 d2) rfl)
    | (go_at_call 39; (with_reducible refine (CB _ HG1.out).mono ?_); rintro e w2 ⟨rfl, hg⟩; have HG2 : Hid (Grew w w2) := grew_trans HG1.out hg; have HR2 := Lib.hid (HR1.out.keep hg); have HB2 := Lib.hid (HB1.out.keep hg); have HZ2 := Lib.hid (HZ1.out.keep hg); clear hg b0 b1 b2 HR1 HB1 HZ1 HG1; have z0 := HZ2.out.at 0 (.int .i64 0) rfl; have z1 := HZ2.out.at 1 (.slice none 0 0) rfl; have z2 := HZ2.out.at 2 (.slice none 0 0) rfl; have f0 := HZ2.out.fr 0 (by simp); have f1 := HZ2.out.fr 1 (by simp); have f2 := HZ2.out.fr 2 (by simp)))
  refine end_put (w := w) (P := bodyPost _ _ _ _ _) [.int .i64 0, .slice none 0 0, .slice none 0 0] (by rfl) HZ2.out HG2.out HN.out.2.1 ?_
  intro w9 h5 g9
  have y0 := (Lib.hid h5).out.at 0 (.int .i64 0) rfl; have y1 := (Lib.hid h5).out.at 1 (.slice none 0 0) rfl; have y2 := (Lib.hid h5).out.at 2 (.slice none 0 0) rfl
  exact bodyPost_ret (v := .tuple #[.agg #[.int .i64 0, .slice none 0 0, .slice none 0 0], .slice none 0 0, .int .i64 k2]) (by simp [results, Try.results17, go_sem, y0, y1, y2]) rfl (HNO _ _ HK.out.1 HK.out.2 g9)
set_option maxRecDepth 100000 in
set_option maxHeartbeats 4000000 in
theorem run_go (r : Rl) (lt : List Tr) (l : List Po) (HNO : ∀ n w', n ≠ 0 → firstM r l = n → Grew w w' → PP (.returned (.tuple #[.agg #[.int .i64 0, .slice none 0 0, .slice none 0 0], .slice none 0 0, .int .i64 n])) w') (CK : ∀ w', Grew w w' → Calls Try.prog 38 #[.agg #[.slice A1 n1 c1, .slice A2 n2 c2, .slice A3 n3 c3]] w' fun e w'' => e = .returned (.int .i64 0) ∧ Grew w' w'') (CB : ∀ w', Grew w w' → Calls Try.prog 39 #[.agg #[.int .i64 nx, .slice B1 m1 d1, .slice B2 m2 d2]] w' fun e w'' => e = .returned (.int .i64 0) ∧ Grew w' w'')
    (CC : ∀ w', Grew w w' → Calls Try.prog 40 #[.slice B1 m1 d1] w' fun e w'' => ∃ A' c', e = .returned (.slice A' m1 c') ∧ OwnE enTr w'' w'.heap.size 86 (.slice A' m1 c') lt ∧ Grew w' w'')
    (CM : ∀ w' j, j < m2 → Grew w w' → Calls Try.prog 41 #[.agg #[.slice A1 n1 c1, .slice A2 n2 c2, .slice A3 n3 c3], vPo (l.getD j po0)] w' (OneP (oneP r (l.getD j po0)) (oneD r (l.getD j po0)) (stepM r (l.getD j po0)) w'))
    (hp : RowE enPo w B2 m2 l) (hm : m2 ≤ 10000) (hl : lt.length = m1)
    (HYES : ∀ w' C1 C2 C3 e1 e2 e3, firstM r l = 0 → OwnB w' w.heap.size (nx, lt, markL r l) C1 C2 e1 e2 → OwnE enDu w' w.heap.size 67 (.slice C3 (duesM r l).length e3) (duesM r l) → Apart C3 C1 → Apart C3 C2 → Grew w w' → PP (.returned (.tuple #[vBk nx C1 C2 m1 (markL r l).length e1 e2, .slice C3 (duesM r l).length e3, .int .i64 0])) w') : Calls Try.prog 17 #[.agg #[.slice A1 n1 c1, .slice A2 n2 c2, .slice A3 n3 c3], .agg #[.int .i64 nx, .slice B1 m1 d1, .slice B2 m2 d2]] w PP := by
  have HP := Lib.hid hp
  have HL := Lib.hid hl
  have HLL := Lib.hid hp.len
  clear hp hl
  have HR0 : Hid (OwnC (((w.alloc (.cells #[.slice A1 n1 c1, .slice A2 n2 c2, .slice A3 n3 c3] 26)).alloc (.cells #[.int .i64 nx, .slice B1 m1 d1, .slice B2 m2 d2] 30)).alloc (.cells #[.int .i64 0, .slice none 0 0, .slice none 0 0] 30)) w.heap.size [.slice A1 n1 c1, .slice A2 n2 c2, .slice A3 n3 c3]) := ((OwnC.new w [.slice A1 n1 c1, .slice A2 n2 c2, .slice A3 n3 c3] _ _ rfl).keep (grew_alloc _ _ _)).keep (grew_alloc _ _ _)
  have HB0 : Hid (OwnC (((w.alloc (.cells #[.slice A1 n1 c1, .slice A2 n2 c2, .slice A3 n3 c3] 26)).alloc (.cells #[.int .i64 nx, .slice B1 m1 d1, .slice B2 m2 d2] 30)).alloc (.cells #[.int .i64 0, .slice none 0 0, .slice none 0 0] 30)) (w.heap.size + 1) [.int .i64 nx, .slice B1 m1 d1, .slice B2 m2 d2]) := (OwnC.new (w.alloc (.cells #[.slice A1 n1 c1, .slice A2 n2 c2, .slice A3 n3 c3] 26)) [.int .i64 nx, .slice B1 m1 d1, .slice B2 m2 d2] _ _ (by simp)).keep (grew_alloc _ _ _)
  have HZ0 : Hid (OwnC (((w.alloc (.cells #[.slice A1 n1 c1, .slice A2 n2 c2, .slice A3 n3 c3] 26)).alloc (.cells #[.int .i64 nx, .slice B1 m1 d1, .slice B2 m2 d2] 30)).alloc (.cells #[.int .i64 0, .slice none 0 0, .slice none 0 0] 30)) (w.heap.size + 1 + 1) [.int .i64 0, .slice none 0 0, .slice none 0 0]) := OwnC.new ((w.alloc (.cells #[.slice A1 n1 c1, .slice A2 n2 c2, .slice A3 n3 c3] 26)).alloc (.cells #[.int .i64 nx, .slice B1 m1 d1, .slice B2 m2 d2] 30)) [.int .i64 0, .slice none 0 0, .slice none 0 0] _ _ (by simp)
  have HG0 : Hid (Grew w (((w.alloc (.cells #[.slice A1 n1 c1, .slice A2 n2 c2, .slice A3 n3 c3] 26)).alloc (.cells #[.int .i64 nx, .slice B1 m1 d1, .slice B2 m2 d2] 30)).alloc (.cells #[.int .i64 0, .slice none 0 0, .slice none 0 0] 30))) := grew_trans (grew_trans (grew_alloc _ _ _) (grew_alloc _ _ _)) (grew_alloc _ _ _)
  have HN : Hid (w.heap.size ≤ w.heap.size + 1 ∧ w.heap.size ≤ w.heap.size + 1 + 1 ∧ w.heap.size ≠ w.heap.size + 1 ∧ w.heap.size ≠ w.heap.size + 1 + 1 ∧ w.heap.size + 1 ≠ w.heap.size + 1 + 1) := by show _ ∧ _; omega
  go_enter Try.func17, Try.ntmps17
  go_upto_region 1 with (fail)
  generalize (((w.alloc (.cells #[.slice A1 n1 c1, .slice A2 n2 c2, .slice A3 n3 c3] 26)).alloc (.cells #[.int .i64 nx, .slice B1 m1 d1, .slice B2 m2 d2] 30)).alloc (.cells #[.int .i64 0, .slice none 0 0, .slice none 0 0] 30)) = w0 at *
  generalize w.heap.size + 1 + 1 = bz at *
  generalize w.heap.size + 1 = bb at *
  have r0 := HR0.out.at 0 (.slice A1 n1 c1) rfl; have r1 := HR0.out.at 1 (.slice A2 n2 c2) rfl; have r2 := HR0.out.at 2 (.slice A3 n3 c3) rfl
  go_upto_region 7 with (first
    | (go_at_call 38; (with_reducible refine (CK _ HG0.out).mono ?_); rintro e w1 ⟨rfl, hg⟩; have HG1 : Hid (Grew w w1) := grew_trans HG0.out hg; have HR1 := Lib.hid (HR0.out.keep hg); have HB1 := Lib.hid (HB0.out.keep hg); have HZ1 := Lib.hid (HZ0.out.keep hg); clear hg r0 r1 r2 HR0 HB0 HZ0 HG0; have b0 := HB1.out.at 0 (.int .i64 nx) rfl; have b1 := HB1.out.at 1 (.slice B1 m1 d1) rfl; have b2 := HB1.out.at 2 (.slice B2 m2 d2) rfl)
    | (go_at_call 39; (with_reducible refine (CB _ HG1.out).mono ?_); rintro e w2 ⟨rfl, hg⟩; have HG2 : Hid (Grew w w2) := grew_trans HG1.out hg; have HR2 := Lib.hid (HR1.out.keep hg); have HB2 := Lib.hid (HB1.out.keep hg); have HZ2 := Lib.hid (HZ1.out.keep hg); clear hg b0 b1 b2 HR1 HB1 HZ1 HG1))
  have HS : Hid (∀ w', Grew w2 w' → w'.cell? ⟨bb, 0, none⟩ = some (.int .i64 nx) ∧ w'.cell? ⟨bb, 1, none⟩ = some (.slice B1 m1 d1)) := fun w' g => ⟨(HB2.out.keep g).at 0 _ rfl, (HB2.out.keep g).at 1 _ rfl⟩
  have HLT : Hid (w.heap.size < w2.heap.size ∧ bb < w2.heap.size ∧ bz < w2.heap.size) := ⟨HR2.out.lt, HB2.out.lt, HZ2.out.lt⟩
  go_region_held3 (fun w' => w'.cell? ⟨bb, 0, none⟩ = some (.int .i64 nx) ∧ w'.cell? ⟨bb, 1, none⟩ = some (.slice B1 m1 d1))
    (first
      | (with_reducible exact HS.out _ (grew_drew (grew_refl _)))
      | (with_reducible exact HS.out _ (grew_drew (grew_alloc _ _ _)))
      | (with_reducible exact HS.out _ HG3.out)
      | (with_reducible exact HS.out _ (grew_trans HG3.out (grew_alloc _ _ _)))
      | (with_reducible exact HS.out _ (grew_set (grew_set (grew_set (grew_trans HG3.out (grew_alloc _ _ _)) _ (grew_size HG3.out)) _ (grew_size HG3.out)) _ (grew_size HG3.out)))
      | (with_reducible exact HS.out _ (grew_set (grew_set (grew_set HG3.out _ (Nat.le_refl _)) _ (Nat.le_refl _)) _ (Nat.le_refl _))))
    (first
      | (go_at_call 40; (with_reducible refine (CC _ (grew_trans HG2.out (grew_drew (grew_refl _)))).mono ?_); rintro e w3 ⟨A', c', rfl, ho, hg⟩; have HG3 : Hid (Grew w2 w3) := grew_trans (grew_drew (grew_refl _)) hg; have HO := Lib.hid ho; clear ho hg)
      | (go_at_call 40; (with_reducible refine (CC _ (grew_trans HG2.out (grew_drew (grew_alloc _ _ _)))).mono ?_); rintro e w3 ⟨A', c', rfl, ho, hg⟩; have HG3 : Hid (Grew w2 w3) := grew_trans (grew_drew (grew_alloc _ _ _)) hg; have HO := Lib.hid ho; have HE3 : Hid (OwnC w3 w2.heap.size [.int .i64 0, .slice none 0 0, .slice none 0 0]) := ((OwnC.new w2 [.int .i64 0, .slice none 0 0, .slice none 0 0] _ w2.heap.size rfl).drew).keep hg; clear ho hg; have z0 := HE3.out.at 0 (.int .i64 0) rfl; have z1 := HE3.out.at 1 (.slice none 0 0) rfl; have z2 := HE3.out.at 2 (.slice none 0 0) rfl; have f0 := HE3.out.fr 0 (by simp); have f1 := HE3.out.fr 1 (by simp); have f2 := HE3.out.fr 2 (by simp)))
  all_goals
   ((first
     | (refine end_eq (P := Exit.then _ _ Exit.normal _) (w5 := w3.alloc (.cells #[.int .i64 nx, .slice A' m1 c', .slice none 0 0] 30)) ?_
        intro w5 e5
        have HC5 : Hid (OwnC w5 w3.heap.size [.int .i64 nx, .slice A' m1 c', .slice none 0 0]) := by
          show OwnC _ _ _; rw [e5]; exact OwnC.new w3 [.int .i64 nx, .slice A' m1 c', .slice none 0 0] _ _ rfl
        have HO5 : Hid (OwnE enTr w5 w.heap.size 86 (.slice A' m1 c') lt) := by
          show OwnE _ _ _ _ _ _; rw [e5]; exact (HO.out.mono (Nat.le_of_lt HLT.out.1)).keep (grew_alloc _ _ _)
        have HNE : Hid (∀ x, A' = some x → x.block ≠ w3.heap.size ∧ x.block ≠ bz) := fun x hx => ⟨Nat.ne_of_lt (HO.out.block x hx).2, by
          have h1 : w2.heap.size ≤ x.block := (HO.out.block x hx).1
          have h2 := HLT.out; omega⟩
        have HG5 : Hid (Grew w2 w5) := by
          show Grew _ _; rw [e5]; exact grew_trans HG3.out (grew_alloc _ _ _)
        have HNB : Hid (w.heap.size ≠ w3.heap.size ∧ bb ≠ w3.heap.size ∧ bz ≠ w3.heap.size ∧ w.heap.size ≤ w3.heap.size) := by
          have h1 := HLT.out; have h2 := grew_size HG3.out; show _ ∧ _; omega
        clear e5 HO HG3
        generalize w3.heap.size = bm at *)
     | (refine end_eq (P := Exit.then _ _ Exit.normal _) (w5 := putC w3 w2.heap.size 0 [.int .i64 nx, .slice A' m1 c', .slice none 0 0]) ?_
        intro w5 e5
        have hd : (w2.alloc (.cells #[.int .i64 0, .slice none 0 0, .slice none 0 0] 30)).drew.heap.size = w2.heap.size + 1 := by
          show (w2.alloc _).heap.size = _; simp
        have HC5 : Hid (OwnC w5 w2.heap.size [.int .i64 nx, .slice A' m1 c', .slice none 0 0]) := by
          show OwnC _ _ _; rw [e5]; exact HE3.out.all [.int .i64 nx, .slice A' m1 c', .slice none 0 0] rfl
        have HO5 : Hid (OwnE enTr w5 w.heap.size 86 (.slice A' m1 c') lt) := by
          show OwnE _ _ _ _ _ _; rw [e5]; exact (OwnE.put (by rw [hd]; omega) [.int .i64 nx, .slice A' m1 c', .slice none 0 0] 0 _ HO.out).mono (by have h1 := HLT.out; rw [hd]; omega)
        have HNE : Hid (∀ x, A' = some x → x.block ≠ w2.heap.size ∧ x.block ≠ bz) := fun x hx => by
          have h1 := (HO.out.block x hx).1
          rw [hd] at h1
          have h2 := HLT.out; omega
        have HG5 : Hid (Grew w2 w5) := by
          show Grew _ _; rw [e5]; exact grew_put _ (Nat.le_refl _) [.int .i64 nx, .slice A' m1 c', .slice none 0 0] 0 _ HG3.out
        have HNB : Hid (w.heap.size ≠ w2.heap.size ∧ bb ≠ w2.heap.size ∧ bz ≠ w2.heap.size ∧ w.heap.size ≤ w2.heap.size) := by
          have h1 := HLT.out; show _ ∧ _; omega
        clear e5 hd HO HG3 z0 z1 z2 f0 f1 f2 HE3
        generalize w2.heap.size = bm at *))
    have HR5 := Lib.hid (HR2.out.keep HG5.out)
    have HB5 := Lib.hid (HB2.out.keep HG5.out)
    have HZ5 := Lib.hid (HZ2.out.keep HG5.out)
    have HGW := Lib.hid (grew_trans HG2.out HG5.out)
    have b2 := HB5.out.at 2 (.slice B2 m2 d2) rfl
    clear HR2 HB2 HZ2 HG2 HG5 HS HLT CK CB CC
    apply_assumption
    go_wp2
    go_loopw [10, 37] (fun vd vi wr => ∃ (j : Nat) (A4 A5 : Option Addr) (c4 c5 : Nat), vi = .int .i64 j ∧ vd = .slice A4 j c4 ∧ j ≤ m2 ∧ Hid (Grow2 enDu enPo w w5 wr 67 34 bm [.int .i64 nx, .slice A' m1 c', .slice A5 (markL r (l.take j)).length c5] (.slice A4 j c4) (.slice A5 (markL r (l.take j)).length c5) (duesM r (l.take j)) (markL r (l.take j))) ∧ Hid (∀ i, i < j → stepM r (l.getD i po0) = 0)) (fun _ vi _ => m2 - (intOf vi).toNat)
    case atStart =>
      refine ⟨0, none, none, 0, 0, rfl, rfl, Nat.zero_le _, ?_, fun i hi => by omega⟩
      exact Grow2.start HC5.out HGW.out HNB.out.2.2.2
    case round =>
      obtain ⟨j, A4, A5, c4, c5, rfl, rfl, hj, HD, HK⟩ := hrel
      by_cases hlt : j < m2
      · obtain ⟨b, o, rfl, hbb, hc⟩ := (HP.out.keep HD.out.gr).po hlt
        obtain ⟨a0, a1, a2, a3⟩ := hc j hlt
        clear hc hbb
        have i0 : (0 : Int) ≤ (j : Int) := by omega
        have i1 : (j : Int) < (m2 : Int) := by omega
        have HRr := Lib.hid (HD.out.own HR5.out HNB.out.1)
        have r0 := HRr.out.at 0 (.slice A1 n1 c1) rfl; have r1 := HRr.out.at 1 (.slice A2 n2 c2) rfl; have r2 := HRr.out.at 2 (.slice A3 n3 c3) rfl
        have hlr := HRr.out.lt
        have CMj := fun w' g => CM w' j hlt g
        have hjl : j < l.length := by rw [HLL.out]; exact hlt
        by_cases hs : stepM r (l.getD j po0) = 0
        · have e1 : oneP r (l.getD j po0) = ((l.getD j po0).1, (l.getD j po0).2.1, (l.getD j po0).2.2.1, costP r (l.getD j po0)) := by unfold oneP; rw [if_pos hs]
          have e2 : oneD r (l.getD j po0) = dueP r (l.getD j po0) := by unfold oneD; rw [if_pos hs]
          rw [e1, e2, hs] at CMj
          have HKJ : Hid (∀ i, i < j + 1 → stepM r (l.getD i po0) = 0) := fun i hi => by
            rcases Nat.lt_or_ge i j with h1 | h1
            · exact HK.out i h1
            · obtain rfl : i = j := by omega
              exact hs
          have HDS := Lib.hid (dues_succ r hjl)
          have HMN := Lib.hid (mark_no r hjl)
          have HMY := Lib.hid (mark_yes r hjl)
          have HLM := Lib.hid (mark_len r l j)
          have HLD := Lib.hid (dues_len r (Nat.le_of_lt hjl))
          unfold OneP at CMj
          clear e1 e2 hs hjl HK
          generalize costP r (l.getD j po0) = cp at *
          generalize dueP r (l.getD j po0) = dd at *
          generalize l.getD j po0 = p at *
          generalize duesM r (l.take j) = ld at *
          generalize markL r (l.take j) = lp at *
          obtain ⟨q1, q2, q3, q4⟩ := p
          obtain ⟨u1, u2, u3⟩ := dd
          dsimp only [vPo, vDu] at a0 a1 a2 a3 CMj HMN HMY
          go_upto_region 13 with (go_at_call 41; (with_reducible refine (CMj _ (grew_trans HD.out.gr (grew_alloc _ _ _))).mono ?_); rintro e w6 ⟨rfl, hg⟩; have HG6 : Hid (Grew wr w6) := grew_trans (grew_alloc _ _ _) hg; clear hg)
          have HA7 : Hid (OwnC ((w6.alloc (.cells #[.int .i64 q1, .int .i64 q2, .int .i64 q3, .int .i64 cp] 34)).alloc (.cells #[.int .i64 u1, .int .i64 u2, .int .i64 u3] 67)) w6.heap.size [.int .i64 q1, .int .i64 q2, .int .i64 q3, .int .i64 cp]) := (OwnC.new w6 [.int .i64 q1, .int .i64 q2, .int .i64 q3, .int .i64 cp] _ _ rfl).keep (grew_alloc _ _ _)
          have HU7 : Hid (OwnC ((w6.alloc (.cells #[.int .i64 q1, .int .i64 q2, .int .i64 q3, .int .i64 cp] 34)).alloc (.cells #[.int .i64 u1, .int .i64 u2, .int .i64 u3] 67)) (w6.heap.size + 1) [.int .i64 u1, .int .i64 u2, .int .i64 u3]) := OwnC.new (w6.alloc (.cells #[.int .i64 q1, .int .i64 q2, .int .i64 q3, .int .i64 cp] 34)) [.int .i64 u1, .int .i64 u2, .int .i64 u3] _ _ (by simp)
          have HG7 : Hid (Grew wr ((w6.alloc (.cells #[.int .i64 q1, .int .i64 q2, .int .i64 q3, .int .i64 cp] 34)).alloc (.cells #[.int .i64 u1, .int .i64 u2, .int .i64 u3] 67))) := grew_trans (grew_trans HG6.out (grew_alloc _ _ _)) (grew_alloc _ _ _)
          have HFA : Hid (some w6.heap.size ≠ (Value.slice A4 j c4).ownBlock ∧ some w6.heap.size ≠ (Value.slice A5 lp.length c5).ownBlock) := HD.out.far (grew_size HG6.out)
          clear HG6 HRr r0 r1 r2 a0 a1 a2 a3 CMj
          generalize ((w6.alloc (.cells #[.int .i64 q1, .int .i64 q2, .int .i64 q3, .int .i64 cp] 34)).alloc (.cells #[.int .i64 u1, .int .i64 u2, .int .i64 u3] 67)) = w7 at *
          generalize w6.heap.size + 1 = bu at *
          generalize w6.heap.size = ba at *
          have HD7 := Lib.hid (HD.out.keep HG7.out)
          clear HD HG7
          have y0 := HU7.out.at 0 (.int .i64 u1) rfl; have y1 := HU7.out.at 1 (.int .i64 u2) rfl; have y2 := HU7.out.at 2 (.int .i64 u3) rfl
          have HSZ : Hid (w5.heap.size ≤ w7.heap.size) := HD7.out.sz
          go_upto_region 16 with (at_builtin; refine (wpList_twoG (E := enDu) (F := enPo) (s := 67) (t := 34) (base := w5.heap.size) rfl _ _ 50 (vDu du0) 24 rfl Try.underlying50 info_du rfl (HD7.out.two.keep (grew_alloc _ _ _)) rfl _ (u1, u2, u3) rfl (RowE.one1 enDu _ _ _ _ _ rfl rfl) (by have := HLD.out; unfold maxLen; omega) (by have := HLD.out; omega) (Nat.le_trans HSZ.out (by simp)) ?_); intro A6 c6 w8 hr hg hA; have HD8 := Lib.hid ((HD7.out.keep (grew_alloc _ _ _)).appA hr hg); have HA8 := Lib.hid ((HA7.out.keep (grew_alloc _ _ _)).grown hg HFA.out.1); clear hr hg hA HD7 HA7 HU7 y0 y1 y2)
          have x0 := HA8.out.at 0 (.int .i64 q1) rfl; have x1 := HA8.out.at 1 (.int .i64 q2) rfl; have x2 := HA8.out.at 2 (.int .i64 q3) rfl; have x3 := HA8.out.at 3 (.int .i64 cp) rfl
          have HSZ8 : Hid (w5.heap.size ≤ w8.heap.size) := HD8.out.sz
          by_cases hz : q3 = 0 ∧ cp = 0
          · have d1 : (q3 != 0) = false := by simp [hz.1]
            have d2 : (cp != 0) = false := by simp [hz.2]
            have hmn := Lib.hid (HMN.out hz)
            clear HMN HMY hz
            go_wp2
            go_roundw
            case rel =>
              refine ⟨j + 1, A6, A5, c6, c5, by go_num, by rw [HLD.out], by omega, ?_, HKJ.out⟩
              have hq := HD8.out
              rw [HLD.out] at hq
              show Grow2 _ _ _ _ _ _ _ _ _ _ _ _ _
              rw [HDS.out, hmn.out]
              exact hq
            case measure => simp only [intOf]; omega
          · have hd : (q3 != 0) = true ∨ (q3 != 0) = false ∧ (cp != 0) = true := by
              by_cases h3 : q3 = 0
              · right; exact ⟨by simp [h3], by simpa using fun h4 => hz ⟨h3, h4⟩⟩
              · left; simpa using h3
            have hmy := Lib.hid (HMY.out hz)
            clear HMN HMY hz
            have m2c := HD8.out.cm.at 2 (.slice A5 lp.length c5) rfl
            rcases hd with d1 | ⟨d1, d2⟩
            all_goals
             (go_upto_region 18 with (at_builtin; refine (wpList_twoG (E := enPo) (F := enDu) (s := 34) (t := 67) (base := w5.heap.size) rfl _ _ 28 (vPo po0) 32 rfl Try.underlying28 info_po rfl (HD8.out.two.swap.keep (grew_alloc _ _ _)) rfl _ (q1, q2, q3, cp) rfl (RowE.one1 enPo _ _ _ _ _ rfl rfl) (by have := HLM.out; unfold maxLen; omega) (by have := HLM.out; omega) (Nat.le_trans HSZ8.out (by simp)) ?_); intro A7 c7 w9 hr hg hA; have HD9 := Lib.hid ((HD8.out.keep (grew_alloc _ _ _)).appB hr hg); have m3c := HD9.out.cm.at 2 (.slice A5 lp.length c5) rfl; have m3f := HD9.out.cm.fr 2 (by simp); clear hr hg hA)
              have HD10 := Lib.hid (HD9.out.set 2 (.slice A7 (lp.length + 1) c7) (by simp))
              clear HD8 HD9 m2c m3c m3f x0 x1 x2 x3 HA8
              generalize w9.setCell ⟨bm, 2, none⟩ (.slice A7 (lp.length + 1) c7) = w10 at *
              go_wp2
              go_roundw
              case rel =>
                refine ⟨j + 1, A6, A7, c6, c7, by go_num, by rw [HLD.out], by omega, ?_, HKJ.out⟩
                have hq := HD10.out
                rw [HLD.out] at hq
                show Grow2 _ _ _ _ _ _ _ _ _ _ _ _ _
                rw [HDS.out, hmy.out, List.length_append, List.length_singleton]
                exact hq
              case measure => simp only [intOf]; omega)
        · have e1 : oneP r (l.getD j po0) = po0 := by unfold oneP; rw [if_neg hs]
          have e2 : oneD r (l.getD j po0) = du0 := by unfold oneD; rw [if_neg hs]
          have hf := first_getD hjl HK.out hs
          have hs2 : (stepM r (l.getD j po0) != 0) = true := by simpa using hs
          have HF := Lib.hid (And.intro hs hf)
          rw [e1, e2] at CMj
          unfold OneP at CMj
          clear e1 e2 hs hjl HK hf
          have HZr := Lib.hid (HD.out.own HZ5.out HNB.out.2.2.1)
          generalize stepM r (l.getD j po0) = st at *
          generalize l.getD j po0 = p at *
          obtain ⟨q1, q2, q3, q4⟩ := p
          dsimp only [vPo, vDu, po0] at a0 a1 a2 a3 CMj
          go_upto_region 13 with (go_at_call 41; (with_reducible refine (CMj _ (grew_trans HD.out.gr (grew_alloc _ _ _))).mono ?_); rintro e w6 ⟨rfl, hg⟩; have HG6 : Hid (Grew wr w6) := grew_trans (grew_alloc _ _ _) hg; clear hg)
          have HG7 : Hid (Grew wr ((w6.alloc (.cells #[.int .i64 0, .int .i64 0, .int .i64 0, .int .i64 0] 34)).alloc (.cells #[.int .i64 0, .int .i64 0, .int .i64 0] 67))) := grew_trans (grew_trans HG6.out (grew_alloc _ _ _)) (grew_alloc _ _ _)
          clear HG6 HRr r0 r1 r2 a0 a1 a2 a3 CMj
          generalize ((w6.alloc (.cells #[.int .i64 0, .int .i64 0, .int .i64 0, .int .i64 0] 34)).alloc (.cells #[.int .i64 0, .int .i64 0, .int .i64 0] 67)) = w7 at *
          have HZ := Lib.hid (HZr.out.keep HG7.out)
          have HGZ := Lib.hid (grew_trans HD.out.gr HG7.out)
          clear HD HG7 HZr
          have z0 := HZ.out.at 0 (.int .i64 0) rfl; have z1 := HZ.out.at 1 (.slice none 0 0) rfl; have z2 := HZ.out.at 2 (.slice none 0 0) rfl
          have f0 := HZ.out.fr 0 (by simp); have f1 := HZ.out.fr 1 (by simp); have f2 := HZ.out.fr 2 (by simp)
          go_wp2
          refine end_put (w := w) (P := bodyPost _ _ _ _ _) [.int .i64 0, .slice none 0 0, .slice none 0 0] (by rfl) HZ.out HGZ.out HN.out.2.1 ?_
          intro w9 h5 g9
          have y0 := (Lib.hid h5).out.at 0 (.int .i64 0) rfl; have y1 := (Lib.hid h5).out.at 1 (.slice none 0 0) rfl; have y2 := (Lib.hid h5).out.at 2 (.slice none 0 0) rfl
          exact bodyPost_ret (v := .tuple #[.agg #[.int .i64 0, .slice none 0 0, .slice none 0 0], .slice none 0 0, .int .i64 st]) (by simp [results, Try.results17, go_sem, y0, y1, y2]) rfl (HNO _ _ HF.out.1 HF.out.2 g9)
      · obtain rfl : j = m2 := by omega
        have hall := mark_all r l HLL.out
        have hfst := first_all (r := r) (l := l) (fun i hi => HK.out i (by rw [HLL.out] at hi; exact hi))
        have hq := HD.out
        rw [hall.1, hall.2] at hq
        have HQ := Lib.hid hq
        have hdl : (duesM r l).length = j := by unfold duesM; rw [List.length_map]; exact HLL.out
        have HDL := Lib.hid (And.intro hfst hdl)
        have HZ := Lib.hid (HD.out.own HZ5.out HNB.out.2.2.1)
        clear hall hfst hq hdl HD HK hlt
        have x0 := (Lib.hid HQ.out.cm).out.at 0 (.int .i64 nx) rfl; have x1 := (Lib.hid HQ.out.cm).out.at 1 (.slice A' m1 c') rfl; have x2 := (Lib.hid HQ.out.cm).out.at 2 (.slice A5 (markL r l).length c5) rfl
        have z0 := HZ.out.at 0 (.int .i64 0) rfl; have z1 := HZ.out.at 1 (.slice none 0 0) rfl; have z2 := HZ.out.at 2 (.slice none 0 0) rfl
        have f0 := HZ.out.fr 0 (by simp); have f1 := HZ.out.fr 1 (by simp); have f2 := HZ.out.fr 2 (by simp)
        go_wp2
        refine end_eq (P := bodyPost _ _ _ _ _) (w5 := putC wr bz 0 [.int .i64 nx, .slice A' m1 c', .slice A5 (markL r l).length c5]) ?_
        intro w9 e9
        have h5 : OwnC w9 bz [.int .i64 nx, .slice A' m1 c', .slice A5 (markL r l).length c5] := by rw [e9]; exact HZ.out.all _ rfl
        have y0 := (Lib.hid h5).out.at 0 (.int .i64 nx) rfl; have y1 := (Lib.hid h5).out.at 1 (.slice A' m1 c') rfl; have y2 := (Lib.hid h5).out.at 2 (.slice A5 (markL r l).length c5) rfl
        have hbz : bz < w5.heap.size := HZ5.out.lt
        have hrows := HQ.out.rows
        have hyes := HYES w9 A' A5 A4 c' c5 c4 HDL.out.1 ⟨by
            rw [e9]; exact OwnE.putN (fun g hg => by
              obtain ⟨x, hx, rfl⟩ := own_addr hg
              exact (HNE.out x hx).2) _ 0 _ (by rw [HL.out]; exact HQ.out.ownE HO5.out fun x hx => (HNE.out x hx).1), by
            rw [e9]; exact OwnE.putN (fun g hg => by have := (World.ownsRow.lt HQ.out.two.b g hg).1; omega) _ 0 _ hrows.2, fun x y hx hy he => by
            have h1 := (HO5.out.block x hx).2
            subst hy
            have h2 := (World.ownsRow.lt HQ.out.two.b y.block rfl).1
            omega⟩ (by
            rw [e9, HDL.out.2]; exact OwnE.putN (fun g hg => by have := (World.ownsRow.lt HQ.out.two.a g hg).1; omega) _ 0 _ hrows.1) (fun x y hx hy he => by
            have h1 := (HO5.out.block y hy).2
            subst hx
            have h2 := (World.ownsRow.lt HQ.out.two.a x.block rfl).1
            omega) (fun x y hx hy he => by
            subst hx hy
            exact HQ.out.two.ne x.block rfl (by rw [he]; rfl)) (by rw [e9]; exact grew_put bz HN.out.2.1 _ 0 _ HQ.out.gr)
        rw [HDL.out.2] at hyes
        exact bodyPost_ret (v := .tuple #[.agg #[.int .i64 nx, .slice A' m1 c', .slice A5 (markL r l).length c5], .slice A4 j c4, .int .i64 0]) (by simp [results, Try.results17, go_sem, y0, y1, y2]) rfl hyes)
end
set_option maxRecDepth 100000 in
set_option maxHeartbeats 4000000 in
theorem run_any (r : Rl) (b : Bk) (A1 A2 A3 B1 B2 : Option Addr) (n1 n2 n3 c1 c2 c3 m1 m2 d1 d2 : Nat) (w : World) (h3 : Rows3 w r A1 A2 A3 n1 n2 n3) (hn : n1 ≤ 1000000 ∧ n2 ≤ 1000000 ∧ n3 ≤ 1000000) (h : InB w b B1 B2 m1 m2 d1 d2) (hm : m1 ≤ 10000 ∧ m2 ≤ 10000) :
    Calls Try.prog 17 #[rlV A1 A2 A3 n1 n2 n3 c1 c2 c3, vBk b.1 B1 B2 m1 m2 d1 d2] w (RunP r b w) := by
  have CK := fun w' (g : Grew w w') => check_any r A1 A2 A3 n1 n2 n3 c1 c2 c3 w' (h3.keep g) hn
  have CB := fun w' (g : Grew w w') => bcheck_any b B1 B2 m1 m2 d1 d2 w' (h.keep g) ⟨by omega, by omega⟩
  have HNO : ∀ n w', n ≠ 0 → runE r b = n → Grew w w' → RunP r b w (.returned (.tuple #[.agg #[.int .i64 0, .slice none 0 0, .slice none 0 0], .slice none 0 0, .int .i64 n])) w' := fun n w' h1 h2 g => runP_no h2 h1 g
  by_cases hr : rightR r = true
  · rw [chkV_yes hr] at CK
    by_cases hb : rightB b = true
    · rw [chkB_yes hb] at CB
      rw [runE_at hr hb] at HNO
      refine run_go b.1 A1 A2 A3 B1 B2 n1 n2 n3 c1 c2 c3 m1 m2 d1 d2 w (RunP r b w) r b.2.1 b.2.2 HNO CK CB (fun w' g => cloneTr_any B1 m1 d1 b.2.1 w' (h.t.keep g) h.k1 (by omega)) (fun w' j hj g => markOne_any r _ A1 A2 A3 n1 n2 n3 c1 c2 c3 w' (h3.i.keep g) hn.2.1 (right_may hr hb (by rw [h.p.len]; exact hj))) h.p hm.2 h.t.len ?_
      intro w' C1 C2 C3 e1 e2 e3 hf ho hd a1 a2 g
      have := runP_yes hr hb hf ho hd a1 a2 g
      rw [h.t.len] at this
      exact this
    · have hb := (Bool.not_eq_true _).mp hb
      rw [chkB_no hb] at CB
      exact run_no2 b.1 A1 A2 A3 B1 B2 n1 n2 n3 c1 c2 c3 m1 m2 d1 d2 w (RunP r b w) (runE r b) 14 HNO CK CB (by decide) (runE_no2 hr hb)
  · have hr := (Bool.not_eq_true _).mp hr
    rw [chkV_no hr] at CK
    exact run_no1 b.1 A1 A2 A3 B1 B2 n1 n2 n3 c1 c2 c3 m1 m2 d1 d2 w (RunP r b w) (runE r b) 14 HNO CK (by decide) (runE_no1 hr)
end Go.Proofs.Ytlbfljkhlkjcbaa.NumK
namespace Go.Proofs.Ytlbfljkhlkjcbaa.NumK
open Go.RowKit
set_option linter.unusedVariables false

set_option maxRecDepth 100000 in
set_option maxHeartbeats 1000000 in
theorem rmay_any (p : Po) (m k : Int) (w : World) : Calls Try.prog 11 #[vPo p, .int .i64 m, .int .i64 k] w fun e w' => e = .returned (.bool (mayW p m k)) ∧ Grew w w' := by
  have HV : Hid (mayW p m k = (okQ p.2.2.1 && isMoney p.2.2.2 && wi m 1 1024 && wi k 0 1073741824)) := rfl
  generalize mayW p m k = V at *
  obtain ⟨q1, q2, q3, q4⟩ := p
  dsimp only at HV
  dsimp only [vPo]
  have hq : okQ q3 = wi q3 (-1099511627776) 1099511627776 := rfl
  rw [hq] at HV
  clear hq
  have CW1 := fun w => rwithin_any q3 (-1099511627776) 1099511627776 w
  have CW2 := fun w => rwithin_any m 1 1024 w
  have CW3 := fun w => rwithin_any k 0 1073741824 w
  have CR := fun w => refRight_any q4 w
  generalize wi q3 (-1099511627776) 1099511627776 = R1 at *
  generalize isMoney q4 = R2 at *
  generalize wi m 1 1024 = R3 at *
  generalize wi k 0 1073741824 = R4 at *
  cases R1
  · have HF : Hid (V = false) := by show _ = _; rw [HV.out]; rfl
    clear HV
    go_enter Try.func11, Try.ntmps11
    go_wp2_with (go_at_call 34; ((with_reducible refine (CW1 _).mono ?_); rintro e w1 ⟨rfl, rfl⟩))
    go_ret
    exact ⟨ret_b HF.out.symm, grew_alloc _ _ _⟩
  · cases R2
    · have HF : Hid (V = false) := by show _ = _; rw [HV.out]; rfl
      clear HV
      go_enter Try.func11, Try.ntmps11
      go_wp2_with (first
        | (go_at_call 34; ((with_reducible refine (CW1 _).mono ?_); rintro e w1 ⟨rfl, rfl⟩))
        | (go_at_call 35; ((with_reducible refine (CR _).mono ?_); rintro e w1 ⟨rfl, rfl⟩)))
      go_ret
      exact ⟨ret_b HF.out.symm, grew_alloc _ _ _⟩
    · cases R3
      · have HF : Hid (V = false) := by show _ = _; rw [HV.out]; rfl
        clear HV
        go_enter Try.func11, Try.ntmps11
        go_wp2_with (first
          | (go_at_call 34; ((with_reducible refine (CW1 _).mono ?_); rintro e w1 ⟨rfl, rfl⟩))
          | (go_at_call 35; ((with_reducible refine (CR _).mono ?_); rintro e w1 ⟨rfl, rfl⟩))
          | (go_at_call 34; ((with_reducible refine (CW2 _).mono ?_); rintro e w1 ⟨rfl, rfl⟩)))
        go_ret
        exact ⟨ret_b HF.out.symm, grew_alloc _ _ _⟩
      · have HF : Hid (V = R4) := by show _ = _; rw [HV.out]; rfl
        clear HV
        go_enter Try.func11, Try.ntmps11
        go_wp2_with (first
          | (go_at_call 34; ((with_reducible refine (CW1 _).mono ?_); rintro e w1 ⟨rfl, rfl⟩))
          | (go_at_call 35; ((with_reducible refine (CR _).mono ?_); rintro e w1 ⟨rfl, rfl⟩))
          | (go_at_call 34; ((with_reducible refine (CW2 _).mono ?_); rintro e w1 ⟨rfl, rfl⟩))
          | (go_at_call 34; ((with_reducible refine (CW3 _).mono ?_); rintro e w1 ⟨rfl, rfl⟩)))
        all_goals go_ret
        all_goals exact ⟨ret_b HF.out.symm, grew_alloc _ _ _⟩

set_option maxRecDepth 100000 in
set_option maxHeartbeats 1000000 in
theorem rprice_any (i : In) (w : World) : Calls Try.prog 14 #[vIn i] w fun e w' => e = .returned (.tuple #[.int .i64 (priceI i), .bool (priceI i != 0)]) ∧ Grew w w' := by
  have HN : Hid (priceI i = if i.1.2.2.2.2.1 = 0 then i.1.2.2.2.2.2 else i.1.2.2.2.2.1) := rfl
  generalize priceI i = N at *
  obtain ⟨⟨q1, q2, q3, q4, q5, q6⟩, ⟨q7, q8, q9, q10, q11, q12⟩⟩ := i
  dsimp only [vIn] at HN ⊢
  by_cases h1 : q5 = 0
  · subst h1
    have HN1 : Hid (N = q6) := by show _ = _; rw [HN.out, if_pos rfl]
    clear HN
    go_enter Try.func14, Try.ntmps14
    go_wp2
    go_quiet (fail)
    go_wp2
    go_ret2
    exact ⟨by rw [HN1.out]; rfl, grew_drewN (grew_alloc _ _ _) _⟩
  · have HN1 : Hid (N = q5) := by show _ = _; rw [HN.out, if_neg h1]
    have HE1 : Hid ((N != 0) = true) := by show _ = _; rw [HN1.out]; simpa using h1
    have d1 : (q5 != 0) = true := by simpa using h1
    clear HN h1
    go_enter Try.func14, Try.ntmps14
    go_wp2
    go_ret2
    exact ⟨by rw [HE1.out, HN1.out]; rfl, grew_alloc _ _ _⟩

/-- times3: a product of three. -/
theorem rtimes3_any (a b c : Int) (w : World) (ha : a.natAbs ≤ 1099511627776) (hb : b.natAbs ≤ 1073741824) (hc : c.natAbs ≤ 1024) :
    Calls Try.prog 36 #[.int .i64 a, .int .i64 b, .int .i64 c] w fun e w' => e = .returned (.agg #[.int .i64 (hi64 (a * (b * c))), .int .u64 (lo64 (a * (b * c)))]) ∧ Grew w w' := by
  have hbc := mul_abs hb hc
  obtain ⟨d, hd⟩ : ∃ d, b * c = d := ⟨_, rfl⟩
  rw [hd] at hbc ⊢
  have C := fun w => refTimes_any a d w (by omega) (by omega)
  have HW : Hid (wrap64 d = d) := by show _ = _; unfold wrap64; omega
  clear ha hb hc hbc
  generalize hi64 (a * d) = x1 at *
  generalize lo64 (a * d) = x2 at *
  go_enter Try.func36, Try.ntmps36
  have hw := HW.out
  go_wp2_with (go_at_call 26; ((with_reducible refine (C _).mono ?_); rintro e w1 ⟨rfl, hg⟩; have HX : Hid (OwnC w1 w.heap.size [.int .i64 0, .int .u64 0]) := (OwnC.new w [.int .i64 0, .int .u64 0] _ _ rfl).keep hg; have x0 := HX.out.at 0 (.int .i64 0) rfl; have x1' := HX.out.at 1 (.int .u64 0) rfl; have f0 := HX.out.fr 0 (by decide); have f1 := HX.out.fr 1 (by decide); have HG : Hid (Grew w w1) := own_back hg; clear hg))
  refine end_put (w := w) (P := bodyPost _ _ _ _ _) [.int .i64 x1, .int .u64 x2] (by rfl) HX.out HG.out (Nat.le_refl _) ?_
  intro w5 h5 g5
  have z0 := h5.at 0 _ rfl
  have z1 := h5.at 1 _ rfl
  exact bodyPost_ret (v := .agg #[.int .i64 x1, .int .u64 x2]) (by simp [results, Try.results36, go_sem, z0, z1]) rfl ⟨rfl, g5⟩

/-- A sum of two wide numbers (the document's), as a statement on cells. -/
theorem rsum2_any (x y z a1 a2 b1 b2 d1 d2 : Int) (w w' : World) (N : Nat) (hN : w.heap.size = N) (g : Grew (w.alloc (.cells #[.int .i64 a1, .int .u64 a2, .int .i64 b1, .int .u64 b2] 64)) w') (hx : isWide x = true) (hy : isWide y = true) (hs : isWide z = true) (hz : x + y = z) (ha1 : hi64 x = a1) (ha2 : lo64 x = a2) (hb1 : hi64 y = b1) (hb2 : lo64 y = b2) (hd1 : hi64 z = d1) (hd2 : lo64 z = d2) :
    Calls Try.prog 27 #[.slice (some ⟨N, 0, none⟩) 2 2] w' fun e w'' => e = .returned (.tuple #[.agg #[.int .i64 d1, .int .u64 d2], .bool true]) ∧ Grew w' w'' := by
  subst hz ha1 ha2 hb1 hb2 hd1 hd2
  have C := refSum_any (some ⟨N, 0, none⟩) 2 2 [x, y] _ ((wides2 w x y 64 N hN).keep g) (by simp [hx, hy]) (by omega)
  have e : [x, y].sum = x + y := by simp
  rw [e, wsV, if_pos hs, hs] at C
  exact C

set_option maxRecDepth 100000 in
set_option maxHeartbeats 2000000 in
theorem rworth_any (p : Po) (m k : Int) (w : World) (hp : mayW p m k = true) : Calls Try.prog 12 #[vPo p, .int .i64 m, .int .i64 k] w fun e w' => e = .returned (.tuple #[.int .i64 (intV (worthV p m k)), .bool (isMoney (worthV p m k))]) ∧ Grew w w' := by
  have hV : worthV p m k = m * (p.2.2.1 * k - p.2.2.2) := rfl
  generalize worthV p m k = V at *
  obtain ⟨q1, q2, q3, q4⟩ := p
  simp only [mayW, Bool.and_eq_true, okQ] at hp
  obtain ⟨⟨⟨r1, r2⟩, r3⟩, r4⟩ := hp
  dsimp only at hV r1 r2
  have b1 : q3.natAbs ≤ 1099511627776 := by simp [wi] at r1; omega
  have b2 : q4.natAbs ≤ 4611686018427387904 := by rw [isMoney_iff] at r2; omega
  have b3 : m.natAbs ≤ 1024 := by simp [wi] at r3; omega
  have b4 : k.natAbs ≤ 1073741824 := by simp [wi] at r4; omega
  clear r1 r2 r3 r4
  have C1 := fun w => rtimes3_any q3 k m w b1 b4 b3
  obtain ⟨X, hX⟩ : ∃ x, q3 * (k * m) = x := ⟨_, rfl⟩
  have bX := mul_abs b1 (mul_abs b4 b3)
  rw [hX] at bX C1
  have C2 := fun w => refTimes_any (-q4) m w (by omega) (by omega)
  obtain ⟨Y, hY⟩ : ∃ x, -q4 * m = x := ⟨_, rfl⟩
  have bY := mul_abs (a := -q4) (b := m) (A := 4611686018427387904) (by omega) b3
  rw [hY] at bY C2
  have hS : X + Y = V := by
    rw [hV, ← hX, ← hY, Int.mul_sub, Int.neg_mul, Int.mul_comm m q4, Int.mul_comm k m, ← Int.mul_assoc q3 m k, Int.mul_comm q3 m, Int.mul_assoc]; omega
  have wX : isWide X = true := isWide_abs (by omega)
  have wY : isWide Y = true := isWide_abs (by omega)
  have wV : isWide V = true := isWide_abs (by omega)
  have CS := fun w w' N hN g => rsum2_any X Y V _ _ _ _ _ _ w w' N hN g wX wY wV hS rfl rfl rfl rfl rfl rfl
  have CI := fun w => refInt_any V w
  have HM2 : IntKind.i64.wrap (-q4) = -q4 := by rw [IntKind.wrap_i64]; omega
  rw [← HM2] at C2
  clear wX wY wV hV hX hY bX bY b1 b2 b3 b4 hS HM2
  generalize hi64 X = x1 at *
  generalize lo64 X = x2 at *
  generalize hi64 Y = y1 at *
  generalize lo64 Y = y2 at *
  generalize hi64 V = v1 at *
  generalize lo64 V = v2 at *
  generalize intV V = N at *
  generalize isMoney V = E at *
  dsimp only [vPo]
  have HX1 : Hid (OwnC (w.alloc (.cells #[.int .i64 q1, .int .i64 q2, .int .i64 q3, .int .i64 q4] 34)) w.heap.size [.int .i64 q1, .int .i64 q2, .int .i64 q3, .int .i64 q4]) := OwnC.new w [.int .i64 q1, .int .i64 q2, .int .i64 q3, .int .i64 q4] _ _ rfl
  have HG1 : Hid (Grew w (w.alloc (.cells #[.int .i64 q1, .int .i64 q2, .int .i64 q3, .int .i64 q4] 34))) := grew_alloc _ _ _
  go_enter Try.func12, Try.ntmps12
  go_upto_region 1 with (fail)
  generalize w.alloc (.cells #[.int .i64 q1, .int .i64 q2, .int .i64 q3, .int .i64 q4] 34) = w1 at *
  have HS : Hid (∀ w', Grew w1 w' → w'.cell? ⟨w.heap.size, 2, none⟩ = some (.int .i64 q3) ∧ w'.cell? ⟨w.heap.size, 3, none⟩ = some (.int .i64 q4)) := fun w' g => ⟨(HX1.out.keep g).at 2 _ rfl, (HX1.out.keep g).at 3 _ rfl⟩
  clear HX1
  go_region_held3 (fun w' => w'.cell? ⟨w.heap.size, 2, none⟩ = some (.int .i64 q3) ∧ w'.cell? ⟨w.heap.size, 3, none⟩ = some (.int .i64 q4))
    (first
      | (with_reducible exact HS.out _ (grew_drew (grew_refl _)))
      | (with_reducible exact HS.out _ (grew_trans (grew_drew (grew_refl _)) (grew_alloc _ _ _)))
      | (with_reducible exact HS.out _ HG3.out)
      | (with_reducible exact HS.out _ (grew_trans HG3.out (grew_alloc _ _ _)))
      | (with_reducible exact HS.out _ (grew_set (grew_set (grew_trans HG3.out (grew_alloc _ _ _)) _ (grew_size HG3.out)) _ (grew_size HG3.out)))
      | (with_reducible exact HS.out _ (grew_set (grew_set HG3.out _ HBS.out) _ HBS.out))
      | (with_reducible exact HS.out _ HGB.out)
      | (with_reducible exact HS.out _ (grew_trans HGB.out (grew_alloc _ _ _)))
      | (with_reducible exact HS.out _ (grew_trans HGB.out (grew_trans (grew_alloc _ _ _) (grew_alloc _ _ _))))
      | (with_reducible exact HS.out _ HGA.out)
      | (with_reducible exact HS.out _ (grew_trans HGA.out (grew_alloc _ _ _))))
    (first
      | (go_at_call 36; (with_reducible refine (C1 _).mono ?_); rintro e w2 ⟨rfl, hg⟩; have HGA : Hid (Grew w1 w2) := grew_trans (grew_drew (grew_refl _)) hg; clear hg)
      | (go_at_call 36; (with_reducible refine (C1 _).mono ?_); rintro e w2 ⟨rfl, hg⟩; have HGA : Hid (Grew w1 w2) := grew_trans (grew_trans (grew_drew (grew_refl _)) (grew_alloc _ _ _)) hg; have HB2 : Hid (OwnC w2 w1.heap.size [.int .i64 0, .int .u64 0]) := (OwnC.new w1.drew [.int .i64 0, .int .u64 0] _ w1.heap.size rfl).keep hg; have HBS : Hid (w1.heap.size ≤ w1.heap.size) := Nat.le_refl _; clear hg)
      | (go_at_call 26; (with_reducible refine (C2 _).mono ?_); rintro e w3 ⟨rfl, hg⟩; have HB3 := Lib.hid (HB2.out.keep hg); have HGB : Hid (Grew w1 w3) := grew_trans HGA.out hg; have HZA : Hid (w1.heap.size ≤ w3.heap.size) := grew_size HGB.out; clear hg)
      | (go_at_call 26; (with_reducible refine (C2 _).mono ?_); rintro e w3 ⟨rfl, hg⟩; have HGB : Hid (Grew w1 w3) := grew_trans HGA.out hg; have HZA : Hid (w1.heap.size ≤ w3.heap.size) := grew_size HGB.out; clear hg)
      | (go_at_call 26; (with_reducible refine (C2 _).mono ?_); rintro e w3 ⟨rfl, hg⟩; have HB3 : Hid (OwnC w3 w2.heap.size [.int .i64 0, .int .u64 0]) := (OwnC.new w2 [.int .i64 0, .int .u64 0] _ _ rfl).keep hg; have HBS : Hid (w1.heap.size ≤ w2.heap.size) := grew_size HGA.out; have HGB : Hid (Grew w1 w3) := grew_trans HGA.out (grew_trans (grew_alloc _ _ _) hg); have HZA : Hid (w1.heap.size ≤ w3.heap.size) := grew_size HGB.out; clear hg)
      | (go_at_call 27; (with_reducible refine (CS _ _ _ rfl (grew_refl _)).mono ?_); rintro e w4 ⟨rfl, hg⟩; have HB4 := Lib.hid (HB3.out.keep (grew_trans (grew_alloc _ _ _) hg)); have HG3 : Hid (Grew w1 w4) := grew_trans HGB.out (grew_trans (grew_alloc _ _ _) hg); have y0 := HB4.out.at 0 (.int .i64 0) rfl; have y1 := HB4.out.at 1 (.int .u64 0) rfl; have f0 := HB4.out.fr 0 (by decide); have f1 := HB4.out.fr 1 (by decide); clear hg)
      | (go_at_call 27; (with_reducible refine (CS _ _ _ rfl (grew_refl _)).mono ?_); rintro e w4 ⟨rfl, hg⟩; have HG3 : Hid (Grew w1 w4) := grew_trans HGB.out (grew_trans (grew_alloc _ _ _) hg); clear hg)
      | (go_at_call 27; (with_reducible refine (CS _ _ _ rfl (grew_alloc _ _ _)).mono ?_); rintro e w4 ⟨rfl, hg⟩; have HB4 : Hid (OwnC w4 (w3.heap.size + 1) [.int .i64 0, .int .u64 0]) := (OwnC.new _ [.int .i64 0, .int .u64 0] _ _ (by simp)).keep hg; have HBS : Hid (w1.heap.size ≤ w3.heap.size + 1) := Nat.le_succ_of_le HZA.out; have HG3 : Hid (Grew w1 w4) := grew_trans HGB.out (grew_trans (grew_trans (grew_alloc _ _ _) (grew_alloc _ _ _)) hg); have y0 := HB4.out.at 0 (.int .i64 0) rfl; have y1 := HB4.out.at 1 (.int .u64 0) rfl; have f0 := HB4.out.fr 0 (by decide); have f1 := HB4.out.fr 1 (by decide); clear hg)
      | (go_at_call 27; (with_reducible refine (CS (w3.alloc _) _ _ (by simp) (grew_refl _)).mono ?_); rintro e w4 ⟨rfl, hg⟩; have HB4 : Hid (OwnC w4 w3.heap.size [.int .i64 0, .int .u64 0]) := ((OwnC.new _ [.int .i64 0, .int .u64 0] _ _ rfl).keep (grew_alloc _ _ _)).keep hg; have HBS : Hid (w1.heap.size ≤ w3.heap.size) := HZA.out; have HG3 : Hid (Grew w1 w4) := grew_trans HGB.out (grew_trans (grew_trans (grew_alloc _ _ _) (grew_alloc _ _ _)) hg); have y0 := HB4.out.at 0 (.int .i64 0) rfl; have y1 := HB4.out.at 1 (.int .u64 0) rfl; have f0 := HB4.out.fr 0 (by decide); have f1 := HB4.out.fr 1 (by decide); clear hg))
  all_goals
    (first
      | refine end_put (w := w) (P := Exit.then _ _ Exit.normal _) [.int .i64 v1, .int .u64 v2] (by rfl) HB4.out (grew_trans HG1.out HG3.out) (Nat.le_trans (grew_size HG1.out) HBS.out) ?_
      | refine end_new (w := w) (P := Exit.then _ _ Exit.normal _) [.int .i64 v1, .int .u64 v2] 64 (grew_trans HG1.out HG3.out) ?_
     intro w5 h5 g5
     have z0 := h5.at 0 _ rfl
     have z1 := h5.at 1 _ rfl
     have HG5 := Lib.hid g5
     clear h5 g5
     apply_assumption
     go_wp2_with (go_at_call 37; ((with_reducible refine (CI _).mono ?_); rintro e w6 ⟨rfl, hg⟩; have HG6 := Lib.hid (grew_trans HG5.out hg); clear hg))
     go_ret2
     exact ⟨rfl, HG6.out⟩)
end Go.Proofs.Ytlbfljkhlkjcbaa.NumK
namespace Go.Proofs.Ytlbfljkhlkjcbaa.NumK
open Go.RowKit

theorem mul_any (a b : Int) (w : World) (ha : isMoney a = true) (hb : isMoney b = true) :
    Calls Try.prog 45 #[.int .i64 a, .int .i64 b] w fun e w' => e = .returned (.tuple #[.int .i64 (intV (a * b)), .bool (isMoney (a * b))]) ∧ Grew w w' := by
  rw [isMoney_iff] at ha hb
  have C := refTimes_any a b w (by omega) (by omega)
  have D := fun w => refInt_any (a * b) w
  clear ha hb
  generalize a * b = p at *
  go_enter Try.func45, Try.ntmps45
  go_wp2_with (first
    | (go_at_call 26; ((with_reducible refine C.mono ?_); rintro e w2 ⟨rfl, hg2⟩))
    | (go_at_call 37; ((with_reducible refine (D _).mono ?_); rintro e w3 ⟨rfl, hg3⟩)))
  go_ret2
  exact ⟨rfl, grew_trans hg2 hg3⟩
end Go.Proofs.Ytlbfljkhlkjcbaa.NumK
