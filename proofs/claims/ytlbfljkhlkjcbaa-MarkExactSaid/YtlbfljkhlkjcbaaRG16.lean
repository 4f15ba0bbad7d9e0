/- The document's Run, walked. -/
import Derived.Test.YtlbfljkhlkjcbaaRG11
import Derived.Test.YtlbfljkhlkjcbaaRG12
import Derived.Test.YtlbfljkhlkjcbaaRG13
import Derived.Test.YtlbfljkhlkjcbaaRG14
import Derived.Test.YtlbfljkhlkjcbaaRG15
import Derived.Deep.RegionHeld3
namespace Go.Proofs.Ytlbfljkhlkjcbaa.NumK
open Go.RowKit
set_option linter.unusedVariables false

section
variable (nx : Int) (A1 A2 A3 B1 B2 : Option Addr) (n1 n2 n3 c1 c2 c3 m1 m2 d1 d2 : Nat) (w : World) (PP : Ending → World → Prop)
set_option maxRecDepth 100000 in
set_option maxHeartbeats 4000000 in
theorem rrun_no1 (runN : Int) (HNO : ∀ n w', n ≠ 0 → runN = n → Grew w w' → PP (.returned (.tuple #[.agg #[.int .i64 0, .slice none 0 0, .slice none 0 0], .slice none 0 0, .int .i64 n])) w') (CK : ∀ w', Grew w w' → Calls Try.prog 42 #[.agg #[.slice A1 n1 c1, .slice A2 n2 c2, .slice A3 n3 c3]] w' fun e w'' => e = .returned (.bool false) ∧ Grew w' w'') (hk : runN = 14) : Calls Try.prog 18 #[.agg #[.slice A1 n1 c1, .slice A2 n2 c2, .slice A3 n3 c3], .agg #[.int .i64 nx, .slice B1 m1 d1, .slice B2 m2 d2]] w PP := by
  have HK := Lib.hid hk
  clear hk
  have HR0 : Hid (OwnC (((w.alloc (.cells #[.slice A1 n1 c1, .slice A2 n2 c2, .slice A3 n3 c3] 26)).alloc (.cells #[.int .i64 nx, .slice B1 m1 d1, .slice B2 m2 d2] 30)).alloc (.cells #[.int .i64 0, .slice none 0 0, .slice none 0 0] 30)) w.heap.size [.slice A1 n1 c1, .slice A2 n2 c2, .slice A3 n3 c3]) := ((OwnC.new w [.slice A1 n1 c1, .slice A2 n2 c2, .slice A3 n3 c3] _ _ rfl).keep (grew_alloc _ _ _)).keep (grew_alloc _ _ _)
  have HB0 : Hid (OwnC (((w.alloc (.cells #[.slice A1 n1 c1, .slice A2 n2 c2, .slice A3 n3 c3] 26)).alloc (.cells #[.int .i64 nx, .slice B1 m1 d1, .slice B2 m2 d2] 30)).alloc (.cells #[.int .i64 0, .slice none 0 0, .slice none 0 0] 30)) (w.heap.size + 1) [.int .i64 nx, .slice B1 m1 d1, .slice B2 m2 d2]) := (OwnC.new (w.alloc (.cells #[.slice A1 n1 c1, .slice A2 n2 c2, .slice A3 n3 c3] 26)) [.int .i64 nx, .slice B1 m1 d1, .slice B2 m2 d2] _ _ (by simp)).keep (grew_alloc _ _ _)
  have HZ0 : Hid (OwnC (((w.alloc (.cells #[.slice A1 n1 c1, .slice A2 n2 c2, .slice A3 n3 c3] 26)).alloc (.cells #[.int .i64 nx, .slice B1 m1 d1, .slice B2 m2 d2] 30)).alloc (.cells #[.int .i64 0, .slice none 0 0, .slice none 0 0] 30)) (w.heap.size + 1 + 1) [.int .i64 0, .slice none 0 0, .slice none 0 0]) := OwnC.new ((w.alloc (.cells #[.slice A1 n1 c1, .slice A2 n2 c2, .slice A3 n3 c3] 26)).alloc (.cells #[.int .i64 nx, .slice B1 m1 d1, .slice B2 m2 d2] 30)) [.int .i64 0, .slice none 0 0, .slice none 0 0] _ _ (by simp)
  have HG0 : Hid (Grew w (((w.alloc (.cells #[.slice A1 n1 c1, .slice A2 n2 c2, .slice A3 n3 c3] 26)).alloc (.cells #[.int .i64 nx, .slice B1 m1 d1, .slice B2 m2 d2] 30)).alloc (.cells #[.int .i64 0, .slice none 0 0, .slice none 0 0] 30))) := grew_trans (grew_trans (grew_alloc _ _ _) (grew_alloc _ _ _)) (grew_alloc _ _ _)
  have HN : Hid (w.heap.size ≤ w.heap.size + 1 ∧ w.heap.size ≤ w.heap.size + 1 + 1 ∧ w.heap.size ≠ w.heap.size + 1 ∧ w.heap.size ≠ w.heap.size + 1 + 1 ∧ w.heap.size + 1 ≠ w.heap.size + 1 + 1) := by show _ ∧ _; omega
  go_enter Try.func18, Try.ntmps18
  go_upto_region 1 with (fail)
  generalize (((w.alloc (.cells #[.slice A1 n1 c1, .slice A2 n2 c2, .slice A3 n3 c3] 26)).alloc (.cells #[.int .i64 nx, .slice B1 m1 d1, .slice B2 m2 d2] 30)).alloc (.cells #[.int .i64 0, .slice none 0 0, .slice none 0 0] 30)) = w0 at *
  generalize w.heap.size + 1 + 1 = bz at *
  generalize w.heap.size + 1 = bb at *
  have r0 := HR0.out.at 0 (.slice A1 n1 c1) rfl; have r1 := HR0.out.at 1 (.slice A2 n2 c2) rfl; have r2 := HR0.out.at 2 (.slice A3 n3 c3) rfl
  go_wp2_with (go_at_call 42; (with_reducible refine (CK _ HG0.out).mono ?_); rintro e w1 ⟨rfl, hg⟩; have HG1 : Hid (Grew w w1) := grew_trans HG0.out hg; have HR1 := Lib.hid (HR0.out.keep hg); have HB1 := Lib.hid (HB0.out.keep hg); have HZ1 := Lib.hid (HZ0.out.keep hg); clear hg r0 r1 r2 HR0 HB0 HZ0 HG0; have z0 := HZ1.out.at 0 (.int .i64 0) rfl; have z1 := HZ1.out.at 1 (.slice none 0 0) rfl; have z2 := HZ1.out.at 2 (.slice none 0 0) rfl; have f0 := HZ1.out.fr 0 (by simp); have f1 := HZ1.out.fr 1 (by simp); have f2 := HZ1.out.fr 2 (by simp))
  refine end_put (w := w) (P := bodyPost _ _ _ _ _) [.int .i64 0, .slice none 0 0, .slice none 0 0] (by rfl) HZ1.out HG1.out HN.out.2.1 ?_
  intro w9 h5 g9
  have y0 := (Lib.hid h5).out.at 0 (.int .i64 0) rfl; have y1 := (Lib.hid h5).out.at 1 (.slice none 0 0) rfl; have y2 := (Lib.hid h5).out.at 2 (.slice none 0 0) rfl
  exact bodyPost_ret (v := .tuple #[.agg #[.int .i64 0, .slice none 0 0, .slice none 0 0], .slice none 0 0, .int .i64 14]) (by simp [results, Try.results18, go_sem, y0, y1, y2]) rfl (HNO _ _ (by decide) HK.out g9)
set_option maxRecDepth 100000 in
set_option maxHeartbeats 4000000 in
theorem rrun_no2 (runN : Int) (HNO : ∀ n w', n ≠ 0 → runN = n → Grew w w' → PP (.returned (.tuple #[.agg #[.int .i64 0, .slice none 0 0, .slice none 0 0], .slice none 0 0, .int .i64 n])) w') (CK : ∀ w', Grew w w' → Calls Try.prog 42 #[.agg #[.slice A1 n1 c1, .slice A2 n2 c2, .slice A3 n3 c3]] w' fun e w'' => e = .returned (.bool true) ∧ Grew w' w'') (CB : ∀ w', Grew w w' → Calls Try.prog 43 #[.agg #[.int .i64 nx, .slice B1 m1 d1, .slice B2 m2 d2]] w' fun e w'' => e = .returned (.bool false) ∧ Grew w' w'') (hk : runN = 14) : Calls Try.prog 18 #[.agg #[.slice A1 n1 c1, .slice A2 n2 c2, .slice A3 n3 c3], .agg #[.int .i64 nx, .slice B1 m1 d1, .slice B2 m2 d2]] w PP := by
  have HK := Lib.hid hk
  clear hk
  have HR0 : Hid (OwnC (((w.alloc (.cells #[.slice A1 n1 c1, .slice A2 n2 c2, .slice A3 n3 c3] 26)).alloc (.cells #[.int .i64 nx, .slice B1 m1 d1, .slice B2 m2 d2] 30)).alloc (.cells #[.int .i64 0, .slice none 0 0, .slice none 0 0] 30)) w.heap.size [.slice A1 n1 c1, .slice A2 n2 c2, .slice A3 n3 c3]) := ((OwnC.new w [.slice A1 n1 c1, .slice A2 n2 c2, .slice A3 n3 c3] _ _ rfl).keep (grew_alloc _ _ _)).keep (grew_alloc _ _ _)
  have HB0 : Hid (OwnC (((w.alloc (.cells #[.slice A1 n1 c1, .slice A2 n2 c2, .slice A3 n3 c3] 26)).alloc (.cells #[.int .i64 nx, .slice B1 m1 d1, .slice B2 m2 d2] 30)).alloc (.cells #[.int .i64 0, .slice none 0 0, .slice none 0 0] 30)) (w.heap.size + 1) [.int .i64 nx, .slice B1 m1 d1, .slice B2 m2 d2]) := (OwnC.new (w.alloc (.cells #[.slice A1 n1 c1, .slice A2 n2 c2, .slice A3 n3 c3] 26)) [.int .i64 nx, .slice B1 m1 d1, .slice B2 m2 d2] _ _ (by simp)).keep (grew_alloc _ _ _)
  have HZ0 : Hid (OwnC (((w.alloc (.cells #[.slice A1 n1 c1, .slice A2 n2 c2, .slice A3 n3 c3] 26)).alloc (.cells #[.int .i64 nx, .slice B1 m1 d1, .slice B2 m2 d2] 30)).alloc (.cells #[.int .i64 0, .slice none 0 0, .slice none 0 0] 30)) (w.heap.size + 1 + 1) [.int .i64 0, .slice none 0 0, .slice none 0 0]) := OwnC.new ((w.alloc (.cells #[.slice A1 n1 c1, .slice A2 n2 c2, .slice A3 n3 c3] 26)).alloc (.cells #[.int .i64 nx, .slice B1 m1 d1, .slice B2 m2 d2] 30)) [.int .i64 0, .slice none 0 0, .slice none 0 0] _ _ (by simp)
  have HG0 : Hid (Grew w (((w.alloc (.cells #[.slice A1 n1 c1, .slice A2 n2 c2, .slice A3 n3 c3] 26)).alloc (.cells #[.int .i64 nx, .slice B1 m1 d1, .slice B2 m2 d2] 30)).alloc (.cells #[.int .i64 0, .slice none 0 0, .slice none 0 0] 30))) := grew_trans (grew_trans (grew_alloc _ _ _) (grew_alloc _ _ _)) (grew_alloc _ _ _)
  have HN : Hid (w.heap.size ≤ w.heap.size + 1 ∧ w.heap.size ≤ w.heap.size + 1 + 1 ∧ w.heap.size ≠ w.heap.size + 1 ∧ w.heap.size ≠ w.heap.size + 1 + 1 ∧ w.heap.size + 1 ≠ w.heap.size + 1 + 1) := by show _ ∧ _; omega
  go_enter Try.func18, Try.ntmps18
  go_upto_region 1 with (fail)
  generalize (((w.alloc (.cells #[.slice A1 n1 c1, .slice A2 n2 c2, .slice A3 n3 c3] 26)).alloc (.cells #[.int .i64 nx, .slice B1 m1 d1, .slice B2 m2 d2] 30)).alloc (.cells #[.int .i64 0, .slice none 0 0, .slice none 0 0] 30)) = w0 at *
  generalize w.heap.size + 1 + 1 = bz at *
  generalize w.heap.size + 1 = bb at *
  have r0 := HR0.out.at 0 (.slice A1 n1 c1) rfl; have r1 := HR0.out.at 1 (.slice A2 n2 c2) rfl; have r2 := HR0.out.at 2 (.slice A3 n3 c3) rfl
  go_wp2_with (first
    | (go_at_call 42; (with_reducible refine (CK _ HG0.out).mono ?_); rintro e w1 ⟨rfl, hg⟩; have HG1 : Hid (Grew w w1) := grew_trans HG0.out hg; have HR1 := Lib.hid (HR0.out.keep hg); have HB1 := Lib.hid (HB0.out.keep hg); have HZ1 := Lib.hid (HZ0.out.keep hg); clear hg r0 r1 r2 HR0 HB0 HZ0 HG0; have b0 := HB1.out.at 0 (.int .i64 nx) rfl; have b1 := HB1.out.at 1 (.slice B1 m1 d1) rfl; have b2 := HB1.out.at 2 (.slice B2 m2 d2) rfl)
    | (go_at_call 43; (with_reducible refine (CB _ HG1.out).mono ?_); rintro e w2 ⟨rfl, hg⟩; have HG2 : Hid (Grew w w2) := grew_trans HG1.out hg; have HR2 := Lib.hid (HR1.out.keep hg); have HB2 := Lib.hid (HB1.out.keep hg); have HZ2 := Lib.hid (HZ1.out.keep hg); clear hg b0 b1 b2 HR1 HB1 HZ1 HG1; have z0 := HZ2.out.at 0 (.int .i64 0) rfl; have z1 := HZ2.out.at 1 (.slice none 0 0) rfl; have z2 := HZ2.out.at 2 (.slice none 0 0) rfl; have f0 := HZ2.out.fr 0 (by simp); have f1 := HZ2.out.fr 1 (by simp); have f2 := HZ2.out.fr 2 (by simp)))
  refine end_put (w := w) (P := bodyPost _ _ _ _ _) [.int .i64 0, .slice none 0 0, .slice none 0 0] (by rfl) HZ2.out HG2.out HN.out.2.1 ?_
  intro w9 h5 g9
  have y0 := (Lib.hid h5).out.at 0 (.int .i64 0) rfl; have y1 := (Lib.hid h5).out.at 1 (.slice none 0 0) rfl; have y2 := (Lib.hid h5).out.at 2 (.slice none 0 0) rfl
  exact bodyPost_ret (v := .tuple #[.agg #[.int .i64 0, .slice none 0 0, .slice none 0 0], .slice none 0 0, .int .i64 14]) (by simp [results, Try.results18, go_sem, y0, y1, y2]) rfl (HNO _ _ (by decide) HK.out g9)
set_option maxRecDepth 100000 in
set_option maxHeartbeats 4000000 in
theorem rrun_go (r : Rl) (lt : List Tr) (l : List Po) (HNO : ∀ n w', n ≠ 0 → firstM r l = n → Grew w w' → PP (.returned (.tuple #[.agg #[.int .i64 0, .slice none 0 0, .slice none 0 0], .slice none 0 0, .int .i64 n])) w') (CK : ∀ w', Grew w w' → Calls Try.prog 42 #[.agg #[.slice A1 n1 c1, .slice A2 n2 c2, .slice A3 n3 c3]] w' fun e w'' => e = .returned (.bool true) ∧ Grew w' w'') (CB : ∀ w', Grew w w' → Calls Try.prog 43 #[.agg #[.int .i64 nx, .slice B1 m1 d1, .slice B2 m2 d2]] w' fun e w'' => e = .returned (.bool true) ∧ Grew w' w'')
    (CT : ∀ w', Grew w w' → Calls Try.prog 16 #[.agg #[.int .i64 nx, .slice B1 m1 d1, .slice B2 m2 d2]] w' (BookP (nx, lt, l) w'))
    (CI : ∀ w' j, j < m2 → Grew w w' → Calls Try.prog 44 #[.agg #[.slice A1 n1 c1, .slice A2 n2 c2, .slice A3 n3 c3], .int .i64 (l.getD j po0).2.1] w' fun e w'' => e = .returned (.tuple #[vIn (instOf r (l.getD j po0)), .bool (hasI r (l.getD j po0))]) ∧ Grew w' w'')
    (CMAY : ∀ j, j < m2 → hasI r (l.getD j po0) = true → mayW (l.getD j po0) (instOf r (l.getD j po0)).1.2.2.1 (priceI (instOf r (l.getD j po0))) = true)
    (hp : RowE enPo w B2 m2 l) (hm : m2 ≤ 10000)
    (HYES : ∀ w' C1 C2 C3 e1 e2 e3, firstM r l = 0 → OwnB w' w.heap.size (nx, lt, markL r l) C1 C2 e1 e2 → OwnE enDu w' w.heap.size 67 (.slice C3 (duesM r l).length e3) (duesM r l) → Apart C3 C1 → Apart C3 C2 → Grew w w' → PP (.returned (.tuple #[vBk nx C1 C2 lt.length (markL r l).length e1 e2, .slice C3 (duesM r l).length e3, .int .i64 0])) w') : Calls Try.prog 18 #[.agg #[.slice A1 n1 c1, .slice A2 n2 c2, .slice A3 n3 c3], .agg #[.int .i64 nx, .slice B1 m1 d1, .slice B2 m2 d2]] w PP := by
  have HP := Lib.hid hp
  have HLL := Lib.hid hp.len
  clear hp
  have HR0 : Hid (OwnC (((w.alloc (.cells #[.slice A1 n1 c1, .slice A2 n2 c2, .slice A3 n3 c3] 26)).alloc (.cells #[.int .i64 nx, .slice B1 m1 d1, .slice B2 m2 d2] 30)).alloc (.cells #[.int .i64 0, .slice none 0 0, .slice none 0 0] 30)) w.heap.size [.slice A1 n1 c1, .slice A2 n2 c2, .slice A3 n3 c3]) := ((OwnC.new w [.slice A1 n1 c1, .slice A2 n2 c2, .slice A3 n3 c3] _ _ rfl).keep (grew_alloc _ _ _)).keep (grew_alloc _ _ _)
  have HB0 : Hid (OwnC (((w.alloc (.cells #[.slice A1 n1 c1, .slice A2 n2 c2, .slice A3 n3 c3] 26)).alloc (.cells #[.int .i64 nx, .slice B1 m1 d1, .slice B2 m2 d2] 30)).alloc (.cells #[.int .i64 0, .slice none 0 0, .slice none 0 0] 30)) (w.heap.size + 1) [.int .i64 nx, .slice B1 m1 d1, .slice B2 m2 d2]) := (OwnC.new (w.alloc (.cells #[.slice A1 n1 c1, .slice A2 n2 c2, .slice A3 n3 c3] 26)) [.int .i64 nx, .slice B1 m1 d1, .slice B2 m2 d2] _ _ (by simp)).keep (grew_alloc _ _ _)
  have HZ0 : Hid (OwnC (((w.alloc (.cells #[.slice A1 n1 c1, .slice A2 n2 c2, .slice A3 n3 c3] 26)).alloc (.cells #[.int .i64 nx, .slice B1 m1 d1, .slice B2 m2 d2] 30)).alloc (.cells #[.int .i64 0, .slice none 0 0, .slice none 0 0] 30)) (w.heap.size + 1 + 1) [.int .i64 0, .slice none 0 0, .slice none 0 0]) := OwnC.new ((w.alloc (.cells #[.slice A1 n1 c1, .slice A2 n2 c2, .slice A3 n3 c3] 26)).alloc (.cells #[.int .i64 nx, .slice B1 m1 d1, .slice B2 m2 d2] 30)) [.int .i64 0, .slice none 0 0, .slice none 0 0] _ _ (by simp)
  have HG0 : Hid (Grew w (((w.alloc (.cells #[.slice A1 n1 c1, .slice A2 n2 c2, .slice A3 n3 c3] 26)).alloc (.cells #[.int .i64 nx, .slice B1 m1 d1, .slice B2 m2 d2] 30)).alloc (.cells #[.int .i64 0, .slice none 0 0, .slice none 0 0] 30))) := grew_trans (grew_trans (grew_alloc _ _ _) (grew_alloc _ _ _)) (grew_alloc _ _ _)
  have HN : Hid (w.heap.size ≤ w.heap.size + 1 ∧ w.heap.size ≤ w.heap.size + 1 + 1 ∧ w.heap.size ≠ w.heap.size + 1 ∧ w.heap.size ≠ w.heap.size + 1 + 1 ∧ w.heap.size + 1 ≠ w.heap.size + 1 + 1) := by show _ ∧ _; omega
  go_enter Try.func18, Try.ntmps18
  go_upto_region 1 with (fail)
  generalize (((w.alloc (.cells #[.slice A1 n1 c1, .slice A2 n2 c2, .slice A3 n3 c3] 26)).alloc (.cells #[.int .i64 nx, .slice B1 m1 d1, .slice B2 m2 d2] 30)).alloc (.cells #[.int .i64 0, .slice none 0 0, .slice none 0 0] 30)) = w0 at *
  generalize w.heap.size + 1 + 1 = bz at *
  generalize w.heap.size + 1 = bb at *
  have r0 := HR0.out.at 0 (.slice A1 n1 c1) rfl; have r1 := HR0.out.at 1 (.slice A2 n2 c2) rfl; have r2 := HR0.out.at 2 (.slice A3 n3 c3) rfl
  go_upto_region 5 with (first
    | (go_at_call 42; (with_reducible refine (CK _ HG0.out).mono ?_); rintro e w1 ⟨rfl, hg⟩; have HG1 : Hid (Grew w w1) := grew_trans HG0.out hg; have HR1 := Lib.hid (HR0.out.keep hg); have HB1 := Lib.hid (HB0.out.keep hg); have HZ1 := Lib.hid (HZ0.out.keep hg); clear hg r0 r1 r2 HR0 HB0 HZ0 HG0; have b0 := HB1.out.at 0 (.int .i64 nx) rfl; have b1 := HB1.out.at 1 (.slice B1 m1 d1) rfl; have b2 := HB1.out.at 2 (.slice B2 m2 d2) rfl)
    | (go_at_call 43; (with_reducible refine (CB _ HG1.out).mono ?_); rintro e w2 ⟨rfl, hg⟩; have HG2 : Hid (Grew w w2) := grew_trans HG1.out hg; have HR2 := Lib.hid (HR1.out.keep hg); have HB2 := Lib.hid (HB1.out.keep hg); have HZ2 := Lib.hid (HZ1.out.keep hg); clear hg b0 b1 b2 HR1 HB1 HZ1 HG1; have b0 := HB2.out.at 0 (.int .i64 nx) rfl; have b1 := HB2.out.at 1 (.slice B1 m1 d1) rfl; have b2 := HB2.out.at 2 (.slice B2 m2 d2) rfl)
    | (go_at_call 16; (with_reducible refine (CT _ HG2.out).mono ?_); rintro e w3 ⟨A', A'', c', c'', rfl, ho, hg⟩; have HG23 := Lib.hid hg; have HO := Lib.hid ho.t; have HLT : Hid (w.heap.size < w2.heap.size ∧ bb < w2.heap.size ∧ bz < w2.heap.size) := ⟨HR2.out.lt, HB2.out.lt, HZ2.out.lt⟩; clear ho b0 b1 b2; have HG3 : Hid (Grew w w3) := grew_trans HG2.out hg; have HR3 := Lib.hid (HR2.out.keep hg); have HB3 := Lib.hid (HB2.out.keep hg); have HZ3 := Lib.hid (HZ2.out.keep hg); clear hg  HR2 HB2 HZ2 HG2))
  refine end_eq (P := Code.wp _ _ _ _) (w5 := (w3.alloc (.cells #[.int .i64 nx, .slice A' lt.length c', .slice none 0 0] 30))) ?_
  intro w5 e5
  have HC5 : Hid (OwnC w5 w3.heap.size [.int .i64 nx, .slice A' lt.length c', .slice none 0 0]) := by
    show OwnC _ _ _; rw [e5]; exact OwnC.new w3 [.int .i64 nx, .slice A' lt.length c', .slice none 0 0] _ _ rfl
  have HO5 : Hid (OwnE enTr w5 w.heap.size 86 (.slice A' lt.length c') lt) := by
    show OwnE _ _ _ _ _ _; rw [e5]; exact (HO.out.mono (Nat.le_of_lt HLT.out.1)).keep (grew_alloc _ _ _)
  have HNE : Hid (∀ x, A' = some x → x.block ≠ w3.heap.size ∧ x.block ≠ bz) := fun x hx => ⟨Nat.ne_of_lt (HO.out.block x hx).2, by
    have h1 : w2.heap.size ≤ x.block := (HO.out.block x hx).1
    have h2 := HLT.out; omega⟩
  have HG35 : Hid (Grew w3 w5) := by
    show Grew _ _; rw [e5]; exact grew_alloc _ _ _
  have HNB : Hid (w.heap.size ≠ w3.heap.size ∧ bb ≠ w3.heap.size ∧ bz ≠ w3.heap.size ∧ w.heap.size ≤ w3.heap.size) := by
    have h1 := HLT.out; have h2 := grew_size HG23.out; show _ ∧ _; omega
  clear e5 HO HG23 HLT
  generalize w3.heap.size = bm at *
  have HR5 := Lib.hid (HR3.out.keep HG35.out)
  have HB5 := Lib.hid (HB3.out.keep HG35.out)
  have HZ5 := Lib.hid (HZ3.out.keep HG35.out)
  have HGW := Lib.hid (grew_trans HG3.out HG35.out)
  clear HR3 HB3 HZ3 HG3 HG35 CK CB CT
  go_wp2
  go_loopw [8, 9] (fun vd vi wr => ∃ (j : Nat) (A4 A5 : Option Addr) (c4 c5 : Nat), vi = .int .i64 j ∧ vd = .slice A4 j c4 ∧ j ≤ m2 ∧ Hid (Grow2 enDu enPo w w5 wr 67 34 bm [.int .i64 nx, .slice A' lt.length c', .slice A5 (markL r (l.take j)).length c5] (.slice A4 j c4) (.slice A5 (markL r (l.take j)).length c5) (duesM r (l.take j)) (markL r (l.take j))) ∧ Hid (∀ i, i < j → stepM r (l.getD i po0) = 0)) (fun _ vi _ => m2 - (intOf vi).toNat)
  case atStart =>
    refine ⟨0, none, none, 0, 0, rfl, rfl, Nat.zero_le _, ?_, fun i hi => by omega⟩
    exact Grow2.start HC5.out HGW.out HNB.out.2.2.2
  case round =>
    obtain ⟨j, A4, A5, c4, c5, rfl, rfl, hj, HD, HK⟩ := hrel
    have HBr := Lib.hid (HD.out.own HB5.out HNB.out.2.1)
    have HZr := Lib.hid (HD.out.own HZ5.out HNB.out.2.2.1)
    have b2 := HBr.out.at 2 (.slice B2 m2 d2) rfl
    by_cases hlt : j < m2
    · obtain ⟨b, o, rfl, hbb, hc⟩ := (HP.out.keep HD.out.gr).po hlt
      obtain ⟨a0, a1, a2, a3⟩ := hc j hlt
      clear hc hbb
      have i0 : (0 : Int) ≤ (j : Int) := by omega
      have i1 : (j : Int) < (m2 : Int) := by omega
      have HRr := Lib.hid (HD.out.own HR5.out HNB.out.1)
      have r0 := HRr.out.at 0 (.slice A1 n1 c1) rfl; have r1 := HRr.out.at 1 (.slice A2 n2 c2) rfl; have r2 := HRr.out.at 2 (.slice A3 n3 c3) rfl
      have hlr := HRr.out.lt
      have CIj := fun w' g => CI w' j hlt g
      have hjl : j < l.length := by rw [HLL.out]; exact hlt
      have hmay := CMAY j hlt
      have CPj := fun w' => rprice_any (instOf r (l.getD j po0)) w'
      by_cases hs : stepM r (l.getD j po0) = 0
      · obtain ⟨s1, s2, s3, s4⟩ := stepM_ok.1 hs
        have hmo := may_parts (hmay s1)
        have CWj := fun w' => rworth_any (l.getD j po0) _ _ w' (hmay s1)
        have CXj := fun w' => mul_any (l.getD j po0).2.2.1 (priceI (instOf r (l.getD j po0))) w' hmo.1 hmo.2
        have ew : worthV (l.getD j po0) (instOf r (l.getD j po0)).1.2.2.1 (priceI (instOf r (l.getD j po0))) = wonP r (l.getD j po0) := rfl
        have ec : (l.getD j po0).2.2.1 * priceI (instOf r (l.getD j po0)) = costP r (l.getD j po0) := rfl
        rw [ew, s3, intV_in s3] at CWj
        rw [ec, s4, intV_in s4] at CXj
        rw [s1] at CIj
        have hd : (priceI (instOf r (l.getD j po0)) != 0) = true ∨ (priceI (instOf r (l.getD j po0)) != 0) = false ∧ ((l.getD j po0).2.2.1 != 0) = false := by
          by_cases h3 : priceI (instOf r (l.getD j po0)) = 0
          · right; exact ⟨by rw [h3]; rfl, by rw [Classical.not_not.1 fun h4 => s2 ⟨h3, h4⟩]; rfl⟩
          · left; exact bne_iff_ne.2 h3
        have HKJ : Hid (∀ i, i < j + 1 → stepM r (l.getD i po0) = 0) := fun i hi => by
          rcases Nat.lt_or_ge i j with h1 | h1
          · exact HK.out i h1
          · obtain rfl : i = j := by omega
            exact hs
        have hds := dues_succ r hjl
        have hdu : dueP r (l.getD j po0) = ((l.getD j po0).1, (instOf r (l.getD j po0)).1.2.1, wonP r (l.getD j po0)) := rfl
        rw [hdu] at hds
        have HDS := Lib.hid hds
        have HMN := Lib.hid (mark_no r hjl)
        have HMY := Lib.hid (mark_yes r hjl)
        have HLM := Lib.hid (mark_len r l j)
        have HLD := Lib.hid (dues_len r (Nat.le_of_lt hjl))
        clear s1 s2 s3 s4 hmo ew ec hmay hs hjl HK hds hdu
        generalize costP r (l.getD j po0) = cp at *
        generalize wonP r (l.getD j po0) = wv at *
        generalize priceI (instOf r (l.getD j po0)) = k at *
        generalize instOf r (l.getD j po0) = i at *
        generalize l.getD j po0 = p at *
        generalize duesM r (l.take j) = ld at *
        generalize markL r (l.take j) = lp at *
        obtain ⟨q1, q2, q3, q4⟩ := p
        obtain ⟨⟨j1, j2, j3, j4, j5, j6⟩, ⟨j7, j8, j9, j10, j11, j12⟩⟩ := i
        dsimp only [vPo, vIn] at a0 a1 a2 a3 CIj CPj CWj CXj HMN HMY HDS hd
        go_upto_region 11 with (go_at_call 44; (with_reducible refine (CIj _ (grew_trans HD.out.gr (grew_alloc _ _ _))).mono ?_); rintro e w6 ⟨rfl, hg⟩; have HG6 := Lib.hid hg; clear hg)
        have HP7 : Hid (OwnC (w6.alloc (.cells #[.int .i64 j1, .int .i64 j2, .int .i64 j3, .int .i64 j4, .int .i64 j5, .int .i64 j6, .int .i64 j7, .int .i64 j8, .int .i64 j9, .int .i64 j10, .int .i64 j11, .int .i64 j12] 37)) wr.heap.size [.int .i64 q1, .int .i64 q2, .int .i64 q3, .int .i64 q4]) := ((OwnC.new wr [.int .i64 q1, .int .i64 q2, .int .i64 q3, .int .i64 q4] _ _ rfl).keep HG6.out).keep (grew_alloc _ _ _)
        have HI7 : Hid (OwnC (w6.alloc (.cells #[.int .i64 j1, .int .i64 j2, .int .i64 j3, .int .i64 j4, .int .i64 j5, .int .i64 j6, .int .i64 j7, .int .i64 j8, .int .i64 j9, .int .i64 j10, .int .i64 j11, .int .i64 j12] 37)) w6.heap.size [.int .i64 j1, .int .i64 j2, .int .i64 j3, .int .i64 j4, .int .i64 j5, .int .i64 j6, .int .i64 j7, .int .i64 j8, .int .i64 j9, .int .i64 j10, .int .i64 j11, .int .i64 j12]) := OwnC.new w6 [.int .i64 j1, .int .i64 j2, .int .i64 j3, .int .i64 j4, .int .i64 j5, .int .i64 j6, .int .i64 j7, .int .i64 j8, .int .i64 j9, .int .i64 j10, .int .i64 j11, .int .i64 j12] _ _ rfl
        have HG7 : Hid (Grew wr (w6.alloc (.cells #[.int .i64 j1, .int .i64 j2, .int .i64 j3, .int .i64 j4, .int .i64 j5, .int .i64 j6, .int .i64 j7, .int .i64 j8, .int .i64 j9, .int .i64 j10, .int .i64 j11, .int .i64 j12] 37))) := grew_trans (grew_trans (grew_alloc _ _ _) HG6.out) (grew_alloc _ _ _)
        have HF : Hid (some wr.heap.size ≠ (Value.slice A4 j c4).ownBlock ∧ some wr.heap.size ≠ (Value.slice A5 lp.length c5).ownBlock ∧ some w6.heap.size ≠ (Value.slice A4 j c4).ownBlock ∧ some w6.heap.size ≠ (Value.slice A5 lp.length c5).ownBlock) := ⟨(HD.out.far (Nat.le_refl _)).1, (HD.out.far (Nat.le_refl _)).2, (HD.out.far (grew_size (grew_trans (grew_alloc _ _ _) HG6.out))).1, (HD.out.far (grew_size (grew_trans (grew_alloc _ _ _) HG6.out))).2⟩
        clear HG6 HRr r0 r1 r2 a0 a1 a2 a3 CIj hlr
        generalize (w6.alloc (.cells #[.int .i64 j1, .int .i64 j2, .int .i64 j3, .int .i64 j4, .int .i64 j5, .int .i64 j6, .int .i64 j7, .int .i64 j8, .int .i64 j9, .int .i64 j10, .int .i64 j11, .int .i64 j12] 37)) = w7 at *
        generalize w6.heap.size = bi at *
        have HD7 := Lib.hid (HD.out.keep HG7.out)
        have HZ7 := Lib.hid (HZr.out.keep HG7.out)
        clear HD HZr
        generalize wr.heap.size = bp at *
        have p0 := HP7.out.at 0 (.int .i64 q1) rfl; have p1 := HP7.out.at 1 (.int .i64 q2) rfl; have p2 := HP7.out.at 2 (.int .i64 q3) rfl; have p3 := HP7.out.at 3 (.int .i64 q4) rfl
        have i0 := HI7.out.at 0 (.int .i64 j1) rfl; have i1 := HI7.out.at 1 (.int .i64 j2) rfl; have i2 := HI7.out.at 2 (.int .i64 j3) rfl; have i3 := HI7.out.at 3 (.int .i64 j4) rfl; have i4 := HI7.out.at 4 (.int .i64 j5) rfl; have i5 := HI7.out.at 5 (.int .i64 j6) rfl; have i6 := HI7.out.at 6 (.int .i64 j7) rfl; have i7 := HI7.out.at 7 (.int .i64 j8) rfl; have i8 := HI7.out.at 8 (.int .i64 j9) rfl; have i9 := HI7.out.at 9 (.int .i64 j10) rfl; have i10 := HI7.out.at 10 (.int .i64 j11) rfl; have i11 := HI7.out.at 11 (.int .i64 j12) rfl
        generalize hkb : (k != 0) = kb at *
        rcases hd with rfl | ⟨rfl, hq⟩
        all_goals
         (clear hkb
          go_upto_region 20 with (first
            | (go_at_call 14; (with_reducible refine (CPj _).mono ?_); rintro e w8 ⟨rfl, hg⟩; have HD8 := Lib.hid (HD7.out.keep hg); have HP8 := Lib.hid (HP7.out.keep hg); have HI8 := Lib.hid (HI7.out.keep hg); have HZ8 := Lib.hid (HZ7.out.keep hg); clear hg HD7 HP7 HI7 HZ7 p0 p1 p2 p3 i0 i1 i2 i3 i4 i5 i6 i7 i8 i9 i10 i11; have p0 := HP8.out.at 0 (.int .i64 q1) rfl; have p1 := HP8.out.at 1 (.int .i64 q2) rfl; have p2 := HP8.out.at 2 (.int .i64 q3) rfl; have p3 := HP8.out.at 3 (.int .i64 q4) rfl; have i1 := HI8.out.at 1 (.int .i64 j2) rfl; have i2 := HI8.out.at 2 (.int .i64 j3) rfl)
            | (go_at_call 12; (with_reducible refine (CWj _).mono ?_); rintro e wa ⟨rfl, hg⟩; have HDA := Lib.hid (HD8.out.keep hg); have HPA := Lib.hid (HP8.out.keep hg); have HIA := Lib.hid (HI8.out.keep hg); have HZA := Lib.hid (HZ8.out.keep hg); clear hg HD8 HP8 HI8 HZ8 p0 p1 p2 p3 i1 i2; have p0 := HPA.out.at 0 (.int .i64 q1) rfl; have p1 := HPA.out.at 1 (.int .i64 q2) rfl; have p2 := HPA.out.at 2 (.int .i64 q3) rfl; have p3 := HPA.out.at 3 (.int .i64 q4) rfl; have i1 := HIA.out.at 1 (.int .i64 j2) rfl; have i2 := HIA.out.at 2 (.int .i64 j3) rfl)
            | (go_at_call 45; (with_reducible refine (CXj _).mono ?_); rintro e wb ⟨rfl, hg⟩; have HDB := Lib.hid (HDA.out.keep hg); have HPB := Lib.hid (HPA.out.keep hg); have HIB := Lib.hid (HIA.out.keep hg); have HZB := Lib.hid (HZA.out.keep hg); clear hg HDA HPA HIA HZA p0 p1 p2 p3 i1 i2; have p0 := HPB.out.at 0 (.int .i64 q1) rfl; have p1 := HPB.out.at 1 (.int .i64 q2) rfl; have p2 := HPB.out.at 2 (.int .i64 q3) rfl; have p3 := HPB.out.at 3 (.int .i64 q4) rfl; have i1 := HIB.out.at 1 (.int .i64 j2) rfl; have i2 := HIB.out.at 2 (.int .i64 j3) rfl))
          have HSZ : Hid (w5.heap.size ≤ wb.heap.size) := HDB.out.sz
          go_upto_region 21 with (at_builtin; refine (wpList_twoG (E := enDu) (F := enPo) (s := 67) (t := 34) (base := w5.heap.size) rfl _ _ 50 (vDu du0) 24 rfl Try.underlying50 info_du rfl (HDB.out.two.keep (grew_alloc _ _ _)) rfl _ (q1, j2, wv) rfl (RowE.one1 enDu _ _ _ _ _ rfl rfl) (by have := HLD.out; unfold maxLen; omega) (by have := HLD.out; omega) (Nat.le_trans HSZ.out (by simp)) ?_); intro A6 c6 wc hr hg hA; have HDC := Lib.hid ((HDB.out.keep (grew_alloc _ _ _)).appA hr hg); have HPC := Lib.hid ((HPB.out.keep (grew_alloc _ _ _)).grown hg HF.out.1); clear hr hg hA HDB HPB HIB p0 p1 p2 p3 i1 i2)
          have x0 := HPC.out.at 0 (.int .i64 q1) rfl; have x1 := HPC.out.at 1 (.int .i64 q2) rfl; have x2 := HPC.out.at 2 (.int .i64 q3) rfl; have x3 := HPC.out.at 3 (.int .i64 q4) rfl
          have HSZ8 : Hid (w5.heap.size ≤ wc.heap.size) := HDC.out.sz
          by_cases hz : q3 = 0 ∧ cp = 0
          · have d1 : (q3 != 0) = false := by rw [hz.1]; rfl
            have d2 : (cp != 0) = false := by rw [hz.2]; rfl
            have hmn := Lib.hid (HMN.out hz)
            clear HMN HMY hz
            go_wp2
            go_roundw
            case rel =>
              refine ⟨j + 1, A6, A5, c6, c5, by go_num, by rw [HLD.out], by omega, ?_, HKJ.out⟩
              have hq := HDC.out
              rw [HLD.out] at hq
              show Grow2 _ _ _ _ _ _ _ _ _ _ _ _ _
              rw [HDS.out, hmn.out]
              exact hq
            case measure => simp only [intOf]; omega
          · have hd : (q3 != 0) = true ∨ (q3 != 0) = false ∧ (cp != 0) = true := by
              by_cases h3 : q3 = 0
              · right; exact ⟨by rw [h3]; rfl, bne_iff_ne.2 fun h4 => hz ⟨h3, h4⟩⟩
              · left; exact bne_iff_ne.2 h3
            have hmy := Lib.hid (HMY.out hz)
            clear HMN HMY hz
            have m2c := HDC.out.cm.at 2 (.slice A5 lp.length c5) rfl
            rcases hd with d1 | ⟨d1, d2⟩
            all_goals
             (go_upto_region 8 with (at_builtin; refine (wpList_twoG (E := enPo) (F := enDu) (s := 34) (t := 67) (base := w5.heap.size) rfl _ _ 28 (vPo po0) 32 rfl Try.underlying28 info_po rfl (HDC.out.two.swap.keep (grew_alloc _ _ _)) rfl _ (q1, q2, q3, cp) rfl (RowE.one1 enPo _ _ _ _ _ rfl rfl) (by have := HLM.out; unfold maxLen; omega) (by have := HLM.out; omega) (Nat.le_trans HSZ8.out (by simp)) ?_); intro A7 c7 w9 hr hg hA; have HD9 := Lib.hid ((HDC.out.keep (grew_alloc _ _ _)).appB hr hg); have m3c := HD9.out.cm.at 2 (.slice A5 lp.length c5) rfl; have m3f := HD9.out.cm.fr 2 (by simp); clear hr hg hA)
              all_goals
               (have HD10 := Lib.hid (HD9.out.set 2 (.slice A7 (lp.length + 1) c7) (by simp))
                clear HDC HD9 m2c m3c m3f x0 x1 x2 x3 HPC
                generalize w9.setCell ⟨bm, 2, none⟩ (.slice A7 (lp.length + 1) c7) = w10 at *
                go_wp2
                go_roundw
                case rel =>
                  refine ⟨j + 1, A6, A7, c6, c7, by go_num, by rw [HLD.out], by omega, ?_, HKJ.out⟩
                  have hq := HD10.out
                  rw [HLD.out] at hq
                  show Grow2 _ _ _ _ _ _ _ _ _ _ _ _ _
                  rw [HDS.out, hmy.out, List.length_append, List.length_singleton]
                  exact hq
                case measure => simp only [intOf]; omega)))
      · have hf := first_getD hjl HK.out hs
        by_cases hB : hasI r (l.getD j po0) = true
        · by_cases hq : priceI (instOf r (l.getD j po0)) = 0 ∧ (l.getD j po0).2.2.1 ≠ 0
          · have HFM := Lib.hid (hf.trans (one_price hB hq))
            rw [hB] at CIj
            have d1 : (priceI (instOf r (l.getD j po0)) != 0) = false := by rw [hq.1]; rfl
            have d2 : ((l.getD j po0).2.2.1 != 0) = true := bne_iff_ne.2 hq.2
            clear hf hs hB hq hmay hjl HK
            generalize priceI (instOf r (l.getD j po0)) = k at *
            generalize instOf r (l.getD j po0) = i at *
            generalize l.getD j po0 = p at *
            generalize duesM r (l.take j) = ld at *
            generalize markL r (l.take j) = lp at *
            obtain ⟨q1, q2, q3, q4⟩ := p
            obtain ⟨⟨j1, j2, j3, j4, j5, j6⟩, ⟨j7, j8, j9, j10, j11, j12⟩⟩ := i
            dsimp only [vPo, vIn] at a0 a1 a2 a3 CIj CPj d2
            generalize (k != 0) = kb at *
            subst d1
            go_upto_region 11 with (go_at_call 44; (with_reducible refine (CIj _ (grew_trans HD.out.gr (grew_alloc _ _ _))).mono ?_); rintro e w6 ⟨rfl, hg⟩; have HG6 := Lib.hid hg; clear hg)
            have HP7 : Hid (OwnC (w6.alloc (.cells #[.int .i64 j1, .int .i64 j2, .int .i64 j3, .int .i64 j4, .int .i64 j5, .int .i64 j6, .int .i64 j7, .int .i64 j8, .int .i64 j9, .int .i64 j10, .int .i64 j11, .int .i64 j12] 37)) wr.heap.size [.int .i64 q1, .int .i64 q2, .int .i64 q3, .int .i64 q4]) := ((OwnC.new wr [.int .i64 q1, .int .i64 q2, .int .i64 q3, .int .i64 q4] _ _ rfl).keep HG6.out).keep (grew_alloc _ _ _)
            have HI7 : Hid (OwnC (w6.alloc (.cells #[.int .i64 j1, .int .i64 j2, .int .i64 j3, .int .i64 j4, .int .i64 j5, .int .i64 j6, .int .i64 j7, .int .i64 j8, .int .i64 j9, .int .i64 j10, .int .i64 j11, .int .i64 j12] 37)) w6.heap.size [.int .i64 j1, .int .i64 j2, .int .i64 j3, .int .i64 j4, .int .i64 j5, .int .i64 j6, .int .i64 j7, .int .i64 j8, .int .i64 j9, .int .i64 j10, .int .i64 j11, .int .i64 j12]) := OwnC.new w6 [.int .i64 j1, .int .i64 j2, .int .i64 j3, .int .i64 j4, .int .i64 j5, .int .i64 j6, .int .i64 j7, .int .i64 j8, .int .i64 j9, .int .i64 j10, .int .i64 j11, .int .i64 j12] _ _ rfl
            have HG7 : Hid (Grew wr (w6.alloc (.cells #[.int .i64 j1, .int .i64 j2, .int .i64 j3, .int .i64 j4, .int .i64 j5, .int .i64 j6, .int .i64 j7, .int .i64 j8, .int .i64 j9, .int .i64 j10, .int .i64 j11, .int .i64 j12] 37))) := grew_trans (grew_trans (grew_alloc _ _ _) HG6.out) (grew_alloc _ _ _)
            have HF : Hid (some wr.heap.size ≠ (Value.slice A4 j c4).ownBlock ∧ some wr.heap.size ≠ (Value.slice A5 lp.length c5).ownBlock ∧ some w6.heap.size ≠ (Value.slice A4 j c4).ownBlock ∧ some w6.heap.size ≠ (Value.slice A5 lp.length c5).ownBlock) := ⟨(HD.out.far (Nat.le_refl _)).1, (HD.out.far (Nat.le_refl _)).2, (HD.out.far (grew_size (grew_trans (grew_alloc _ _ _) HG6.out))).1, (HD.out.far (grew_size (grew_trans (grew_alloc _ _ _) HG6.out))).2⟩
            clear HG6 HRr r0 r1 r2 a0 a1 a2 a3 CIj hlr
            generalize (w6.alloc (.cells #[.int .i64 j1, .int .i64 j2, .int .i64 j3, .int .i64 j4, .int .i64 j5, .int .i64 j6, .int .i64 j7, .int .i64 j8, .int .i64 j9, .int .i64 j10, .int .i64 j11, .int .i64 j12] 37)) = w7 at *
            generalize w6.heap.size = bi at *
            have HD7 := Lib.hid (HD.out.keep HG7.out)
            have HZ7 := Lib.hid (HZr.out.keep HG7.out)
            clear HD HZr
            generalize wr.heap.size = bp at *
            have p0 := HP7.out.at 0 (.int .i64 q1) rfl; have p1 := HP7.out.at 1 (.int .i64 q2) rfl; have p2 := HP7.out.at 2 (.int .i64 q3) rfl; have p3 := HP7.out.at 3 (.int .i64 q4) rfl
            have i0 := HI7.out.at 0 (.int .i64 j1) rfl; have i1 := HI7.out.at 1 (.int .i64 j2) rfl; have i2 := HI7.out.at 2 (.int .i64 j3) rfl; have i3 := HI7.out.at 3 (.int .i64 j4) rfl; have i4 := HI7.out.at 4 (.int .i64 j5) rfl; have i5 := HI7.out.at 5 (.int .i64 j6) rfl; have i6 := HI7.out.at 6 (.int .i64 j7) rfl; have i7 := HI7.out.at 7 (.int .i64 j8) rfl; have i8 := HI7.out.at 8 (.int .i64 j9) rfl; have i9 := HI7.out.at 9 (.int .i64 j10) rfl; have i10 := HI7.out.at 10 (.int .i64 j11) rfl; have i11 := HI7.out.at 11 (.int .i64 j12) rfl
            go_wp2_with (go_at_call 14; (with_reducible refine (CPj _).mono ?_); rintro e w8 ⟨rfl, hg⟩; have HD8 := Lib.hid (HD7.out.keep hg); have HP8 := Lib.hid (HP7.out.keep hg); have HI8 := Lib.hid (HI7.out.keep hg); have HZ8 := Lib.hid (HZ7.out.keep hg); clear hg HD7 HP7 HI7 HZ7 p0 p1 p2 p3 i0 i1 i2 i3 i4 i5 i6 i7 i8 i9 i10 i11; have p0 := HP8.out.at 0 (.int .i64 q1) rfl; have p1 := HP8.out.at 1 (.int .i64 q2) rfl; have p2 := HP8.out.at 2 (.int .i64 q3) rfl; have p3 := HP8.out.at 3 (.int .i64 q4) rfl; have i1 := HI8.out.at 1 (.int .i64 j2) rfl; have i2 := HI8.out.at 2 (.int .i64 j3) rfl; have z0 := HZ8.out.at 0 (.int .i64 0) rfl; have z1 := HZ8.out.at 1 (.slice none 0 0) rfl; have z2 := HZ8.out.at 2 (.slice none 0 0) rfl; have f0 := HZ8.out.fr 0 (by simp); have f1 := HZ8.out.fr 1 (by simp); have f2 := HZ8.out.fr 2 (by simp))
            refine end_put (w := w) (P := bodyPost _ _ _ _ _) [.int .i64 0, .slice none 0 0, .slice none 0 0] (by rfl) HZ8.out (Lib.hid HD8.out.gr).out HN.out.2.1 ?_
            intro w9 h5 g9
            have y0 := (Lib.hid h5).out.at 0 (.int .i64 0) rfl; have y1 := (Lib.hid h5).out.at 1 (.slice none 0 0) rfl; have y2 := (Lib.hid h5).out.at 2 (.slice none 0 0) rfl
            exact bodyPost_ret (v := .tuple #[.agg #[.int .i64 0, .slice none 0 0, .slice none 0 0], .slice none 0 0, .int .i64 20]) (by simp [results, Try.results18, go_sem, y0, y1, y2]) rfl (HNO _ _ (by decide) HFM.out g9)
          · have hmo := may_parts (hmay hB)
            have CWj := fun w' => rworth_any (l.getD j po0) _ _ w' (hmay hB)
            have CXj := fun w' => mul_any (l.getD j po0).2.2.1 (priceI (instOf r (l.getD j po0))) w' hmo.1 hmo.2
            have ew : worthV (l.getD j po0) (instOf r (l.getD j po0)).1.2.2.1 (priceI (instOf r (l.getD j po0))) = wonP r (l.getD j po0) := rfl
            have ec : (l.getD j po0).2.2.1 * priceI (instOf r (l.getD j po0)) = costP r (l.getD j po0) := rfl
            rw [ew] at CWj
            rw [ec] at CXj
            rw [hB] at CIj
            have hb : (isMoney (wonP r (l.getD j po0)) && isMoney (costP r (l.getD j po0))) = false := by
              cases hb : (isMoney (wonP r (l.getD j po0)) && isMoney (costP r (l.getD j po0)))
              · rfl
              · exact absurd (one_ok hB hq hb) hs
            have HFM := Lib.hid (hf.trans (one_big hB hq hb))
            have hd : (priceI (instOf r (l.getD j po0)) != 0) = true ∨ (priceI (instOf r (l.getD j po0)) != 0) = false ∧ ((l.getD j po0).2.2.1 != 0) = false := by
              by_cases h3 : priceI (instOf r (l.getD j po0)) = 0
              · right; exact ⟨by rw [h3]; rfl, by rw [Classical.not_not.1 fun h4 => hq ⟨h3, h4⟩]; rfl⟩
              · left; exact bne_iff_ne.2 h3
            clear hf hs hB hq hmay hmo ew ec hjl HK
            generalize isMoney (costP r (l.getD j po0)) = eb2 at *
            generalize isMoney (wonP r (l.getD j po0)) = eb1 at *
            generalize intV (costP r (l.getD j po0)) = cp at *
            generalize intV (wonP r (l.getD j po0)) = wv at *
            generalize priceI (instOf r (l.getD j po0)) = k at *
            generalize instOf r (l.getD j po0) = i at *
            generalize l.getD j po0 = p at *
            generalize duesM r (l.take j) = ld at *
            generalize markL r (l.take j) = lp at *
            obtain ⟨q1, q2, q3, q4⟩ := p
            obtain ⟨⟨j1, j2, j3, j4, j5, j6⟩, ⟨j7, j8, j9, j10, j11, j12⟩⟩ := i
            dsimp only [vPo, vIn] at a0 a1 a2 a3 CIj CPj CWj CXj hd
            go_upto_region 11 with (go_at_call 44; (with_reducible refine (CIj _ (grew_trans HD.out.gr (grew_alloc _ _ _))).mono ?_); rintro e w6 ⟨rfl, hg⟩; have HG6 := Lib.hid hg; clear hg)
            have HP7 : Hid (OwnC (w6.alloc (.cells #[.int .i64 j1, .int .i64 j2, .int .i64 j3, .int .i64 j4, .int .i64 j5, .int .i64 j6, .int .i64 j7, .int .i64 j8, .int .i64 j9, .int .i64 j10, .int .i64 j11, .int .i64 j12] 37)) wr.heap.size [.int .i64 q1, .int .i64 q2, .int .i64 q3, .int .i64 q4]) := ((OwnC.new wr [.int .i64 q1, .int .i64 q2, .int .i64 q3, .int .i64 q4] _ _ rfl).keep HG6.out).keep (grew_alloc _ _ _)
            have HI7 : Hid (OwnC (w6.alloc (.cells #[.int .i64 j1, .int .i64 j2, .int .i64 j3, .int .i64 j4, .int .i64 j5, .int .i64 j6, .int .i64 j7, .int .i64 j8, .int .i64 j9, .int .i64 j10, .int .i64 j11, .int .i64 j12] 37)) w6.heap.size [.int .i64 j1, .int .i64 j2, .int .i64 j3, .int .i64 j4, .int .i64 j5, .int .i64 j6, .int .i64 j7, .int .i64 j8, .int .i64 j9, .int .i64 j10, .int .i64 j11, .int .i64 j12]) := OwnC.new w6 [.int .i64 j1, .int .i64 j2, .int .i64 j3, .int .i64 j4, .int .i64 j5, .int .i64 j6, .int .i64 j7, .int .i64 j8, .int .i64 j9, .int .i64 j10, .int .i64 j11, .int .i64 j12] _ _ rfl
            have HG7 : Hid (Grew wr (w6.alloc (.cells #[.int .i64 j1, .int .i64 j2, .int .i64 j3, .int .i64 j4, .int .i64 j5, .int .i64 j6, .int .i64 j7, .int .i64 j8, .int .i64 j9, .int .i64 j10, .int .i64 j11, .int .i64 j12] 37))) := grew_trans (grew_trans (grew_alloc _ _ _) HG6.out) (grew_alloc _ _ _)
            have HF : Hid (some wr.heap.size ≠ (Value.slice A4 j c4).ownBlock ∧ some wr.heap.size ≠ (Value.slice A5 lp.length c5).ownBlock ∧ some w6.heap.size ≠ (Value.slice A4 j c4).ownBlock ∧ some w6.heap.size ≠ (Value.slice A5 lp.length c5).ownBlock) := ⟨(HD.out.far (Nat.le_refl _)).1, (HD.out.far (Nat.le_refl _)).2, (HD.out.far (grew_size (grew_trans (grew_alloc _ _ _) HG6.out))).1, (HD.out.far (grew_size (grew_trans (grew_alloc _ _ _) HG6.out))).2⟩
            clear HG6 HRr r0 r1 r2 a0 a1 a2 a3 CIj hlr
            generalize (w6.alloc (.cells #[.int .i64 j1, .int .i64 j2, .int .i64 j3, .int .i64 j4, .int .i64 j5, .int .i64 j6, .int .i64 j7, .int .i64 j8, .int .i64 j9, .int .i64 j10, .int .i64 j11, .int .i64 j12] 37)) = w7 at *
            generalize w6.heap.size = bi at *
            have HD7 := Lib.hid (HD.out.keep HG7.out)
            have HZ7 := Lib.hid (HZr.out.keep HG7.out)
            clear HD HZr
            generalize wr.heap.size = bp at *
            have p0 := HP7.out.at 0 (.int .i64 q1) rfl; have p1 := HP7.out.at 1 (.int .i64 q2) rfl; have p2 := HP7.out.at 2 (.int .i64 q3) rfl; have p3 := HP7.out.at 3 (.int .i64 q4) rfl
            have i0 := HI7.out.at 0 (.int .i64 j1) rfl; have i1 := HI7.out.at 1 (.int .i64 j2) rfl; have i2 := HI7.out.at 2 (.int .i64 j3) rfl; have i3 := HI7.out.at 3 (.int .i64 j4) rfl; have i4 := HI7.out.at 4 (.int .i64 j5) rfl; have i5 := HI7.out.at 5 (.int .i64 j6) rfl; have i6 := HI7.out.at 6 (.int .i64 j7) rfl; have i7 := HI7.out.at 7 (.int .i64 j8) rfl; have i8 := HI7.out.at 8 (.int .i64 j9) rfl; have i9 := HI7.out.at 9 (.int .i64 j10) rfl; have i10 := HI7.out.at 10 (.int .i64 j11) rfl; have i11 := HI7.out.at 11 (.int .i64 j12) rfl
            generalize hkb : (k != 0) = kb at *
            have he : eb1 = false ∨ eb1 = true ∧ eb2 = false := by revert hb; cases eb1 <;> cases eb2 <;> simp
            clear hb
            rcases hd with rfl | ⟨rfl, hq⟩ <;> rcases he with rfl | ⟨rfl, rfl⟩
            all_goals
             (clear hkb
              go_wp2_with (first
                | (go_at_call 14; (with_reducible refine (CPj _).mono ?_); rintro e w8 ⟨rfl, hg⟩; have HD8 := Lib.hid (HD7.out.keep hg); have HP8 := Lib.hid (HP7.out.keep hg); have HI8 := Lib.hid (HI7.out.keep hg); have HZ8 := Lib.hid (HZ7.out.keep hg); clear hg HD7 HP7 HI7 HZ7 p0 p1 p2 p3 i0 i1 i2 i3 i4 i5 i6 i7 i8 i9 i10 i11; have p0 := HP8.out.at 0 (.int .i64 q1) rfl; have p1 := HP8.out.at 1 (.int .i64 q2) rfl; have p2 := HP8.out.at 2 (.int .i64 q3) rfl; have p3 := HP8.out.at 3 (.int .i64 q4) rfl; have i1 := HI8.out.at 1 (.int .i64 j2) rfl; have i2 := HI8.out.at 2 (.int .i64 j3) rfl)
                | (go_at_call 12; (with_reducible refine (CWj _).mono ?_); rintro e wa ⟨rfl, hg⟩; have HDA := Lib.hid (HD8.out.keep hg); have HPA := Lib.hid (HP8.out.keep hg); have HIA := Lib.hid (HI8.out.keep hg); have HZA := Lib.hid (HZ8.out.keep hg); clear hg HD8 HP8 HI8 HZ8 p0 p1 p2 p3 i1 i2; have p0 := HPA.out.at 0 (.int .i64 q1) rfl; have p1 := HPA.out.at 1 (.int .i64 q2) rfl; have p2 := HPA.out.at 2 (.int .i64 q3) rfl; have p3 := HPA.out.at 3 (.int .i64 q4) rfl; have i1 := HIA.out.at 1 (.int .i64 j2) rfl; have i2 := HIA.out.at 2 (.int .i64 j3) rfl)
                | (go_at_call 45; (with_reducible refine (CXj _).mono ?_); rintro e wb ⟨rfl, hg⟩; have HDB := Lib.hid (HDA.out.keep hg); have HPB := Lib.hid (HPA.out.keep hg); have HIB := Lib.hid (HIA.out.keep hg); have HZB := Lib.hid (HZA.out.keep hg); clear hg HDA HPA HIA HZA p0 p1 p2 p3 i1 i2; have p0 := HPB.out.at 0 (.int .i64 q1) rfl; have p1 := HPB.out.at 1 (.int .i64 q2) rfl; have p2 := HPB.out.at 2 (.int .i64 q3) rfl; have p3 := HPB.out.at 3 (.int .i64 q4) rfl; have i1 := HIB.out.at 1 (.int .i64 j2) rfl; have i2 := HIB.out.at 2 (.int .i64 j3) rfl; have z0 := HZB.out.at 0 (.int .i64 0) rfl; have z1 := HZB.out.at 1 (.slice none 0 0) rfl; have z2 := HZB.out.at 2 (.slice none 0 0) rfl; have f0 := HZB.out.fr 0 (by simp); have f1 := HZB.out.fr 1 (by simp); have f2 := HZB.out.fr 2 (by simp)))
              refine end_put (w := w) (P := bodyPost _ _ _ _ _) [.int .i64 0, .slice none 0 0, .slice none 0 0] (by rfl) HZB.out (Lib.hid HDB.out.gr).out HN.out.2.1 ?_
              intro w9 h5 g9
              have y0 := (Lib.hid h5).out.at 0 (.int .i64 0) rfl; have y1 := (Lib.hid h5).out.at 1 (.slice none 0 0) rfl; have y2 := (Lib.hid h5).out.at 2 (.slice none 0 0) rfl
              exact bodyPost_ret (v := .tuple #[.agg #[.int .i64 0, .slice none 0 0, .slice none 0 0], .slice none 0 0, .int .i64 1]) (by simp [results, Try.results18, go_sem, y0, y1, y2]) rfl (HNO _ _ (by decide) HFM.out g9))
        · have hB := (Bool.not_eq_true _).mp hB
          have HFM := Lib.hid (hf.trans (one_none hB))
          rw [hB] at CIj
          clear hf hs hB hmay hjl HK CPj
          generalize instOf r (l.getD j po0) = i at *
          generalize l.getD j po0 = p at *
          generalize duesM r (l.take j) = ld at *
          generalize markL r (l.take j) = lp at *
          obtain ⟨q1, q2, q3, q4⟩ := p
          obtain ⟨⟨j1, j2, j3, j4, j5, j6⟩, ⟨j7, j8, j9, j10, j11, j12⟩⟩ := i
          dsimp only [vPo, vIn] at a0 a1 a2 a3 CIj
          go_upto_region 11 with (go_at_call 44; (with_reducible refine (CIj _ (grew_trans HD.out.gr (grew_alloc _ _ _))).mono ?_); rintro e w6 ⟨rfl, hg⟩; have HG6 := Lib.hid hg; clear hg)
          have HP7 : Hid (OwnC (w6.alloc (.cells #[.int .i64 j1, .int .i64 j2, .int .i64 j3, .int .i64 j4, .int .i64 j5, .int .i64 j6, .int .i64 j7, .int .i64 j8, .int .i64 j9, .int .i64 j10, .int .i64 j11, .int .i64 j12] 37)) wr.heap.size [.int .i64 q1, .int .i64 q2, .int .i64 q3, .int .i64 q4]) := ((OwnC.new wr [.int .i64 q1, .int .i64 q2, .int .i64 q3, .int .i64 q4] _ _ rfl).keep HG6.out).keep (grew_alloc _ _ _)
          have HI7 : Hid (OwnC (w6.alloc (.cells #[.int .i64 j1, .int .i64 j2, .int .i64 j3, .int .i64 j4, .int .i64 j5, .int .i64 j6, .int .i64 j7, .int .i64 j8, .int .i64 j9, .int .i64 j10, .int .i64 j11, .int .i64 j12] 37)) w6.heap.size [.int .i64 j1, .int .i64 j2, .int .i64 j3, .int .i64 j4, .int .i64 j5, .int .i64 j6, .int .i64 j7, .int .i64 j8, .int .i64 j9, .int .i64 j10, .int .i64 j11, .int .i64 j12]) := OwnC.new w6 [.int .i64 j1, .int .i64 j2, .int .i64 j3, .int .i64 j4, .int .i64 j5, .int .i64 j6, .int .i64 j7, .int .i64 j8, .int .i64 j9, .int .i64 j10, .int .i64 j11, .int .i64 j12] _ _ rfl
          have HG7 : Hid (Grew wr (w6.alloc (.cells #[.int .i64 j1, .int .i64 j2, .int .i64 j3, .int .i64 j4, .int .i64 j5, .int .i64 j6, .int .i64 j7, .int .i64 j8, .int .i64 j9, .int .i64 j10, .int .i64 j11, .int .i64 j12] 37))) := grew_trans (grew_trans (grew_alloc _ _ _) HG6.out) (grew_alloc _ _ _)
          have HF : Hid (some wr.heap.size ≠ (Value.slice A4 j c4).ownBlock ∧ some wr.heap.size ≠ (Value.slice A5 lp.length c5).ownBlock ∧ some w6.heap.size ≠ (Value.slice A4 j c4).ownBlock ∧ some w6.heap.size ≠ (Value.slice A5 lp.length c5).ownBlock) := ⟨(HD.out.far (Nat.le_refl _)).1, (HD.out.far (Nat.le_refl _)).2, (HD.out.far (grew_size (grew_trans (grew_alloc _ _ _) HG6.out))).1, (HD.out.far (grew_size (grew_trans (grew_alloc _ _ _) HG6.out))).2⟩
          clear HG6 HRr r0 r1 r2 a0 a1 a2 a3 CIj hlr
          generalize (w6.alloc (.cells #[.int .i64 j1, .int .i64 j2, .int .i64 j3, .int .i64 j4, .int .i64 j5, .int .i64 j6, .int .i64 j7, .int .i64 j8, .int .i64 j9, .int .i64 j10, .int .i64 j11, .int .i64 j12] 37)) = w7 at *
          generalize w6.heap.size = bi at *
          have HD7 := Lib.hid (HD.out.keep HG7.out)
          have HZ7 := Lib.hid (HZr.out.keep HG7.out)
          clear HD HZr
          generalize wr.heap.size = bp at *
          have z0 := HZ7.out.at 0 (.int .i64 0) rfl; have z1 := HZ7.out.at 1 (.slice none 0 0) rfl; have z2 := HZ7.out.at 2 (.slice none 0 0) rfl; have f0 := HZ7.out.fr 0 (by simp); have f1 := HZ7.out.fr 1 (by simp); have f2 := HZ7.out.fr 2 (by simp)
          go_wp2
          refine end_put (w := w) (P := bodyPost _ _ _ _ _) [.int .i64 0, .slice none 0 0, .slice none 0 0] (by rfl) HZ7.out (Lib.hid HD7.out.gr).out HN.out.2.1 ?_
          intro w9 h5 g9
          have y0 := (Lib.hid h5).out.at 0 (.int .i64 0) rfl; have y1 := (Lib.hid h5).out.at 1 (.slice none 0 0) rfl; have y2 := (Lib.hid h5).out.at 2 (.slice none 0 0) rfl
          exact bodyPost_ret (v := .tuple #[.agg #[.int .i64 0, .slice none 0 0, .slice none 0 0], .slice none 0 0, .int .i64 10]) (by simp [results, Try.results18, go_sem, y0, y1, y2]) rfl (HNO _ _ (by decide) HFM.out g9)
    · obtain rfl : j = m2 := by omega
      have hall := mark_all r l HLL.out
      have hfst := first_all (r := r) (l := l) (fun i hi => HK.out i (by rw [HLL.out] at hi; exact hi))
      have hq := HD.out
      rw [hall.1, hall.2] at hq
      have HQ := Lib.hid hq
      have hdl : (duesM r l).length = j := by unfold duesM; rw [List.length_map]; exact HLL.out
      have HDL := Lib.hid (And.intro hfst hdl)
      clear hall hfst hq hdl HD HK hlt
      have x0 := (Lib.hid HQ.out.cm).out.at 0 (.int .i64 nx) rfl; have x1 := (Lib.hid HQ.out.cm).out.at 1 (.slice A' lt.length c') rfl; have x2 := (Lib.hid HQ.out.cm).out.at 2 (.slice A5 (markL r l).length c5) rfl
      have z0 := HZr.out.at 0 (.int .i64 0) rfl; have z1 := HZr.out.at 1 (.slice none 0 0) rfl; have z2 := HZr.out.at 2 (.slice none 0 0) rfl; have f0 := HZr.out.fr 0 (by simp); have f1 := HZr.out.fr 1 (by simp); have f2 := HZr.out.fr 2 (by simp)
      go_wp2
      refine end_eq (P := bodyPost _ _ _ _ _) (w5 := putC wr bz 0 [.int .i64 nx, .slice A' lt.length c', .slice A5 (markL r l).length c5]) ?_
      intro w9 e9
      have h5 : OwnC w9 bz [.int .i64 nx, .slice A' lt.length c', .slice A5 (markL r l).length c5] := by rw [e9]; exact HZr.out.all _ rfl
      have y0 := (Lib.hid h5).out.at 0 (.int .i64 nx) rfl; have y1 := (Lib.hid h5).out.at 1 (.slice A' lt.length c') rfl; have y2 := (Lib.hid h5).out.at 2 (.slice A5 (markL r l).length c5) rfl
      have hbz : bz < w5.heap.size := HZ5.out.lt
      have hrows := HQ.out.rows
      have hyes := HYES w9 A' A5 A4 c' c5 c4 HDL.out.1 ⟨by
          rw [e9]; exact OwnE.putN (fun g hg => by
            obtain ⟨x, hx, rfl⟩ := own_addr hg
            exact (HNE.out x hx).2) _ 0 _ (HQ.out.ownE HO5.out fun x hx => (HNE.out x hx).1), by
          rw [e9]; exact OwnE.putN (fun g hg => by have := (World.ownsRow.lt HQ.out.two.b g hg).1; omega) _ 0 _ hrows.2, fun x y hx hy he => by
          have h1 := (HO5.out.block x hx).2
          subst hy
          have h2 := (World.ownsRow.lt HQ.out.two.b y.block rfl).1
          omega⟩ (by
          rw [e9, HDL.out.2]; exact OwnE.putN (fun g hg => by have := (World.ownsRow.lt HQ.out.two.a g hg).1; omega) _ 0 _ hrows.1) (fun x y hx hy he => by
          have h1 := (HO5.out.block y hy).2
          subst hx
          have h2 := (World.ownsRow.lt HQ.out.two.a x.block rfl).1
          omega) (fun x y hx hy he => by
          subst hx hy
          exact HQ.out.two.ne x.block rfl (by rw [he]; rfl)) (by rw [e9]; exact grew_put bz HN.out.2.1 _ 0 _ HQ.out.gr)
      rw [HDL.out.2] at hyes
      exact bodyPost_ret (v := .tuple #[.agg #[.int .i64 nx, .slice A' lt.length c', .slice A5 (markL r l).length c5], .slice A4 j c4, .int .i64 0]) (by simp [results, Try.results18, go_sem, y0, y1, y2]) rfl hyes
end
set_option maxRecDepth 100000 in
set_option maxHeartbeats 4000000 in
theorem rrun_any (r : Rl) (b : Bk) (A1 A2 A3 B1 B2 : Option Addr) (n1 n2 n3 c1 c2 c3 m1 m2 d1 d2 : Nat) (w : World) (h3 : Rows3 w r A1 A2 A3 n1 n2 n3) (hn : n1 ≤ 1000000 ∧ n2 ≤ 1000000 ∧ n3 ≤ 1000000) (h : InB w b B1 B2 m1 m2 d1 d2) (hm : m1 ≤ 10000 ∧ m2 ≤ 10000) :
    Calls Try.prog 18 #[rlV A1 A2 A3 n1 n2 n3 c1 c2 c3, vBk b.1 B1 B2 m1 m2 d1 d2] w (RunP r b w) := by
  have CK := fun w' (g : Grew w w') => rroll_any r A1 A2 A3 n1 n2 n3 c1 c2 c3 w' (h3.keep g) hn
  have CB := fun w' (g : Grew w w') => rbook_any b B1 B2 m1 m2 d1 d2 w' (h.keep g) ⟨by omega, by omega⟩
  have HNO : ∀ n w', n ≠ 0 → runE r b = n → Grew w w' → RunP r b w (.returned (.tuple #[.agg #[.int .i64 0, .slice none 0 0, .slice none 0 0], .slice none 0 0, .int .i64 n])) w' := fun n w' h1 h2 g => runP_no h2 h1 g
  by_cases hr : rightR r = true
  · rw [hr] at CK
    by_cases hb : rightB b = true
    · rw [hb] at CB
      rw [runE_at hr hb] at HNO
      refine rrun_go b.1 A1 A2 A3 B1 B2 n1 n2 n3 c1 c2 c3 m1 m2 d1 d2 w (RunP r b w) r b.2.1 b.2.2 HNO CK CB (fun w' g => twinBook_any b B1 B2 m1 m2 d1 d2 w' (h.keep g) ⟨by omega, by omega⟩) (fun w' j hj g => rfindIn_any A1 A2 A3 n1 n2 n3 c1 c2 c3 r.2.1 (b.2.2.getD j po0).2.1 w' (h3.i.keep g) hn.2.1) (fun j hj => right_may hr hb (by rw [h.p.len]; exact hj)) h.p hm.2 ?_
      intro w' C1 C2 C3 e1 e2 e3 hf ho hd a1 a2 g
      exact runP_yes hr hb hf ho hd a1 a2 g
    · have hb := (Bool.not_eq_true _).mp hb
      rw [hb] at CB
      exact rrun_no2 b.1 A1 A2 A3 B1 B2 n1 n2 n3 c1 c2 c3 m1 m2 d1 d2 w (RunP r b w) (runE r b) HNO CK CB (runE_no2 hr hb)
  · have hr := (Bool.not_eq_true _).mp hr
    rw [hr] at CK
    exact rrun_no1 b.1 A1 A2 A3 B1 B2 n1 n2 n3 c1 c2 c3 m1 m2 d1 d2 w (RunP r b w) (runE r b) HNO CK (runE_no1 hr)
end Go.Proofs.Ytlbfljkhlkjcbaa.NumK
