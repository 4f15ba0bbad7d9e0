/- The document's Of. -/
import Derived.Test.YtahioajpmlochaaGreatRH15
namespace Go.Proofs.YtahioajpmlochaaGreat.NumK
open Go.RowKit
set_option linter.unusedVariables false

set_option maxRecDepth 100000 in
set_option maxHeartbeats 4000000 in
theorem rof_any (b : Bk) (A1 A2 : Option Addr) (n1 n2 c1 c2 : Nat) (k1 k2 : Int) (w : World) (h : InB w b A1 A2 n1 n2 c1 c2) (hn : n2 ≤ 100000) :
    Calls Tryz.prog 5 #[vBk b.1 A1 A2 n1 n2 c1 c2, vKy (k1, k2)] w fun e w' => e = .returned (vPo (ofP b.2.2 (k1, k2))) ∧ Grew w w' := by
  have HI := Lib.hid h.p
  have HL := Lib.hid h.p.len
  have HF := Lib.hid (of_found b.2.2 (k1, k2))
  have HNo := Lib.hid (of_none b.2.2 (k1, k2))
  clear h
  dsimp only [vBk, vKy]
  have HX0 : Hid (OwnC (((w.alloc (.cells #[.int .i64 b.1, .slice A1 n1 c1, .slice A2 n2 c2] 28)).alloc (.cells #[.int .i64 k1, .int .i64 k2] 24)).alloc (.cells #[.int .i64 0, .int .i64 0, .int .i64 0, .int .i64 0] 31)) w.heap.size [.int .i64 b.1, .slice A1 n1 c1, .slice A2 n2 c2]) := ((OwnC.new w [.int .i64 b.1, .slice A1 n1 c1, .slice A2 n2 c2] _ _ rfl).keep (grew_alloc _ _ _)).keep (grew_alloc _ _ _)
  have HY0 : Hid (OwnC (((w.alloc (.cells #[.int .i64 b.1, .slice A1 n1 c1, .slice A2 n2 c2] 28)).alloc (.cells #[.int .i64 k1, .int .i64 k2] 24)).alloc (.cells #[.int .i64 0, .int .i64 0, .int .i64 0, .int .i64 0] 31)) (w.heap.size + 1) [.int .i64 k1, .int .i64 k2]) := (OwnC.new _ [.int .i64 k1, .int .i64 k2] _ _ (by simp)).keep (grew_alloc _ _ _)
  have HZ0 : Hid (OwnC (((w.alloc (.cells #[.int .i64 b.1, .slice A1 n1 c1, .slice A2 n2 c2] 28)).alloc (.cells #[.int .i64 k1, .int .i64 k2] 24)).alloc (.cells #[.int .i64 0, .int .i64 0, .int .i64 0, .int .i64 0] 31)) (w.heap.size + 1 + 1) [.int .i64 0, .int .i64 0, .int .i64 0, .int .i64 0]) := OwnC.new _ [.int .i64 0, .int .i64 0, .int .i64 0, .int .i64 0] _ _ (by simp)
  have HG0 : Hid (Grew w (((w.alloc (.cells #[.int .i64 b.1, .slice A1 n1 c1, .slice A2 n2 c2] 28)).alloc (.cells #[.int .i64 k1, .int .i64 k2] 24)).alloc (.cells #[.int .i64 0, .int .i64 0, .int .i64 0, .int .i64 0] 31))) := grew_trans (grew_trans (grew_alloc _ _ _) (grew_alloc _ _ _)) (grew_alloc _ _ _)
  generalize b.1 = nx at *
  generalize b.2.2 = l at *
  generalize ofP l (k1, k2) = R at *
  go_enter Tryz.func5, Tryz.ntmps5
  go_upto_region 1 with fail
  generalize ((w.alloc (.cells #[.int .i64 nx, .slice A1 n1 c1, .slice A2 n2 c2] 28)).alloc (.cells #[.int .i64 k1, .int .i64 k2] 24)).alloc (.cells #[.int .i64 0, .int .i64 0, .int .i64 0, .int .i64 0] 31) = w0 at *
  go_wp2
  go_loopw [5] (fun v wr => ∃ j : Nat, v = .int .i64 j ∧ j ≤ n2 ∧ Hid (∀ i, i < j → isK (k1, k2) (l.getD i po0) = false) ∧ Hid (Grew w0 wr)) (fun v _ => n2 - (intOf v).toNat)
  case atStart => exact ⟨0, rfl, by omega, (by intro i hi; omega), grew_refl _⟩
  case round =>
    obtain ⟨j, rfl, hj, HK, HG⟩ := hrel
    have HGW := Lib.hid (grew_trans HG0.out HG.out)
    have HX := Lib.hid (HX0.out.keep HG.out)
    have HZ := Lib.hid (HZ0.out.keep HG.out)
    have HY := Lib.hid (HY0.out.keep HG.out)
    have x2 : wr.cell? ⟨w.heap.size, 2, none⟩ = some (.slice A2 n2 c2) := HX.out.at 2 _ rfl
    by_cases hlt : j < n2
    · have hjl : j < l.length := by rw [HL.out]; exact hlt
      obtain ⟨bb, o, rfl, hb, hc⟩ := (HI.out.keep HGW.out).po hlt
      have HC := Lib.hid (hc j hlt)
      have HBB := Lib.hid hb
      have HF1 := Lib.hid (HF.out j hjl HK.out)
      have HK1 : Hid (isK (k1, k2) (l.getD j po0) = false → ∀ i, i < j + 1 → isK (k1, k2) (l.getD i po0) = false) := fun h i hi => by
        rcases Nat.lt_or_ge i j with h1 | h1
        · exact HK.out i h1
        · obtain rfl : i = j := by omega
          exact h
      have HM := Lib.hid (isK_alt k1 k2 (l.getD j po0))
      have i0 : (0 : Int) ≤ (j : Int) := by omega
      have i1 : (j : Int) < (n2 : Int) := by omega
      clear hc hb HNo HF
      generalize isK (k1, k2) (l.getD j po0) = im at *
      generalize l.getD j po0 = x at *
      obtain ⟨q1, q2, q3, q4⟩ := x
      dsimp only at HM
      have m0 := grew_every (w := wr) (S := fun w' => w'.cell? ⟨bb, o + j * 4, none⟩ = some (.int .i64 q1)) (fun w' g => (HC.out.keep g HBB.out).1)
      have m1 := grew_every (w := wr) (S := fun w' => w'.cell? ⟨bb, o + j * 4 + 1, none⟩ = some (.int .i64 q2)) (fun w' g => (HC.out.keep g HBB.out).2.1)
      have m4 := grew_every (w := wr) (S := fun w' => w'.cell? ⟨w.heap.size, 2, none⟩ = some (.slice (some ⟨bb, o, none⟩) n2 c2)) (fun w' g => (HX.out.keep g).at 2 _ rfl)
      have m5 := grew_every (w := wr) (S := fun w' => w'.cell? ⟨w.heap.size + 1, 0, none⟩ = some (.int .i64 k1)) (fun w' g => (HY.out.keep g).at 0 _ rfl)
      have m6 := grew_every (w := wr) (S := fun w' => w'.cell? ⟨w.heap.size + 1, 1, none⟩ = some (.int .i64 k2)) (fun w' g => (HY.out.keep g).at 1 _ rfl)
      have H : (im = false ∧ (q1 == k1) = false) ∨ (im = false ∧ q1 = k1 ∧ (q2 == k2) = false) ∨ (im = true ∧ q1 = k1 ∧ q2 = k2) := by
        rw [HM.out]
        by_cases h1 : q1 = k1 <;> by_cases h2 : q2 = k2 <;> simp [h1, h2]
      rcases H with ⟨rfl, d1⟩ | ⟨rfl, rfl, d2⟩ | ⟨rfl, rfl, rfl⟩
      · have HK2 := Lib.hid (HK1.out rfl)
        clear HF1 HK1 HM
        go_upto_region 4 with fail
        refine wp_region_grew (by kernel_rfl) (by kernel_rfl) ?_
        repeat (go_big_quiet_step (fail))
        refine wpQuiet_nil ?_
        intro w5 hw'
        have HG5 := Lib.hid (grew_of hw')
        clear hw' m0 m1 m4 m5 m6
        go_wp2
        go_roundw
        case rel => exact ⟨j + 1, by go_num, by omega, HK2.out, grew_trans HG.out HG5.out⟩
        case measure => simp only [intOf]; omega
      · have HK2 := Lib.hid (HK1.out rfl)
        clear HF1 HK1 HM
        go_upto_region 4 with fail
        refine wp_region_grew (by kernel_rfl) (by kernel_rfl) ?_
        repeat (go_big_quiet_step (fail))
        refine wpQuiet_nil ?_
        intro w5 hw'
        have HG5 := Lib.hid (grew_of hw')
        clear hw' m0 m1 m4 m5 m6
        go_wp2
        go_roundw
        case rel => exact ⟨j + 1, by go_num, by omega, HK2.out, grew_trans HG.out HG5.out⟩
        case measure => simp only [intOf]; omega
      · have HR := Lib.hid (HF1.out rfl)
        clear HF1 HK1 HM HK
        go_upto_region 4 with fail
        refine wp_region_grew (by kernel_rfl) (by kernel_rfl) ?_
        repeat (go_big_quiet_step (fail))
        refine wpQuiet_nil ?_
        intro w8 hw'
        have HG5 := Lib.hid (grew_of hw')
        clear hw' m0 m1 m4 m5 m6
        have HZN := Lib.hid (HZ.out.keep HG5.out)
        obtain ⟨p0, p1, p2, p3⟩ := HC.out.keep HG5.out HBB.out
        dsimp only at p0 p1 p2 p3
        have u2 : w8.cell? ⟨w.heap.size, 2, none⟩ = some (.slice (some ⟨bb, o, none⟩) n2 c2) := (HX.out.keep HG5.out).at 2 _ rfl
        have z0 : w8.cell? ⟨w.heap.size + 1 + 1, 0, none⟩ = some (.int .i64 0) := HZN.out.at 0 _ rfl
        have z1 : w8.cell? ⟨w.heap.size + 1 + 1, 1, none⟩ = some (.int .i64 0) := HZN.out.at 1 _ rfl
        have z2 : w8.cell? ⟨w.heap.size + 1 + 1, 2, none⟩ = some (.int .i64 0) := HZN.out.at 2 _ rfl
        have z3 : w8.cell? ⟨w.heap.size + 1 + 1, 3, none⟩ = some (.int .i64 0) := HZN.out.at 3 _ rfl
        have f0 : w8.frozen? ⟨w.heap.size + 1 + 1, 0, none⟩ = false := HZN.out.fr 0 (by decide)
        have f1 : w8.frozen? ⟨w.heap.size + 1 + 1, 1, none⟩ = false := HZN.out.fr 1 (by decide)
        have f2 : w8.frozen? ⟨w.heap.size + 1 + 1, 2, none⟩ = false := HZN.out.fr 2 (by decide)
        have f3 : w8.frozen? ⟨w.heap.size + 1 + 1, 3, none⟩ = false := HZN.out.fr 3 (by decide)
        go_wp2
        have HP := HZN.out.all [.int .i64 q1, .int .i64 q2, .int .i64 q3, .int .i64 q4] rfl
        have HGP := grew_put (w := w) (w.heap.size + 1 + 1) (by omega) [.int .i64 q1, .int .i64 q2, .int .i64 q3, .int .i64 q4] 0 _ (grew_trans HGW.out HG5.out)
        change bodyPost _ _ _ _ _ (putC w8 (w.heap.size + 1 + 1) 0 [.int .i64 q1, .int .i64 q2, .int .i64 q3, .int .i64 q4])
        clear z0 z1 z2 z3
        generalize putC w8 (w.heap.size + 1 + 1) 0 [.int .i64 q1, .int .i64 q2, .int .i64 q3, .int .i64 q4] = w9 at *
        have z0 : w9.cell? ⟨w.heap.size + 1 + 1, 0, none⟩ = _ := HP.at 0 _ rfl
        have z1 : w9.cell? ⟨w.heap.size + 1 + 1, 1, none⟩ = _ := HP.at 1 _ rfl
        have z2 : w9.cell? ⟨w.heap.size + 1 + 1, 2, none⟩ = _ := HP.at 2 _ rfl
        have z3 : w9.cell? ⟨w.heap.size + 1 + 1, 3, none⟩ = _ := HP.at 3 _ rfl
        refine bodyPost_ret (v := .agg #[.int .i64 q1, .int .i64 q2, .int .i64 q3, .int .i64 q4]) (by simp [results, Tryz.results5, go_sem, z0, z1, z2, z3]) rfl ?_
        rw [HR.out]
        exact ⟨rfl, HGP⟩
    · obtain rfl : j = n2 := by omega
      have HR := Lib.hid (HNo.out (fun i hi => HK.out i (by rw [HL.out] at hi; exact hi)))
      have y0 : wr.cell? ⟨w.heap.size + 1, 0, none⟩ = some (.int .i64 k1) := HY.out.at 0 _ rfl
      have y1 : wr.cell? ⟨w.heap.size + 1, 1, none⟩ = some (.int .i64 k2) := HY.out.at 1 _ rfl
      have z0 : wr.cell? ⟨w.heap.size + 1 + 1, 0, none⟩ = some (.int .i64 0) := HZ.out.at 0 _ rfl
      have z1 : wr.cell? ⟨w.heap.size + 1 + 1, 1, none⟩ = some (.int .i64 0) := HZ.out.at 1 _ rfl
      have z2 : wr.cell? ⟨w.heap.size + 1 + 1, 2, none⟩ = some (.int .i64 0) := HZ.out.at 2 _ rfl
      have z3 : wr.cell? ⟨w.heap.size + 1 + 1, 3, none⟩ = some (.int .i64 0) := HZ.out.at 3 _ rfl
      have f0 : wr.frozen? ⟨w.heap.size + 1 + 1, 0, none⟩ = false := HZ.out.fr 0 (by decide)
      have f1 : wr.frozen? ⟨w.heap.size + 1 + 1, 1, none⟩ = false := HZ.out.fr 1 (by decide)
      have f2 : wr.frozen? ⟨w.heap.size + 1 + 1, 2, none⟩ = false := HZ.out.fr 2 (by decide)
      have f3 : wr.frozen? ⟨w.heap.size + 1 + 1, 3, none⟩ = false := HZ.out.fr 3 (by decide)
      clear HF HNo HK
      go_wp2
      have HP := HZ.out.all [.int .i64 k1, .int .i64 k2, .int .i64 0, .int .i64 0] rfl
      have HGP := grew_put (w := w) (w.heap.size + 1 + 1) (by omega) [.int .i64 k1, .int .i64 k2, .int .i64 0, .int .i64 0] 0 _ HGW.out
      change bodyPost _ _ _ _ _ (putC wr (w.heap.size + 1 + 1) 0 [.int .i64 k1, .int .i64 k2, .int .i64 0, .int .i64 0])
      clear z0 z1 z2 z3
      generalize putC wr (w.heap.size + 1 + 1) 0 [.int .i64 k1, .int .i64 k2, .int .i64 0, .int .i64 0] = w9 at *
      have z0 : w9.cell? ⟨w.heap.size + 1 + 1, 0, none⟩ = _ := HP.at 0 _ rfl
      have z1 : w9.cell? ⟨w.heap.size + 1 + 1, 1, none⟩ = _ := HP.at 1 _ rfl
      have z2 : w9.cell? ⟨w.heap.size + 1 + 1, 2, none⟩ = _ := HP.at 2 _ rfl
      have z3 : w9.cell? ⟨w.heap.size + 1 + 1, 3, none⟩ = _ := HP.at 3 _ rfl
      refine bodyPost_ret (v := .agg #[.int .i64 k1, .int .i64 k2, .int .i64 0, .int .i64 0]) (by simp [results, Tryz.results5, go_sem, z0, z1, z2, z3]) rfl ?_
      rw [HR.out]
      exact ⟨rfl, HGP⟩
end Go.Proofs.YtahioajpmlochaaGreat.NumK
