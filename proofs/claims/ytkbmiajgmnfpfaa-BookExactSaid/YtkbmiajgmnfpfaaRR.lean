/- The document's Of. -/
import Derived.Test.YtkbmiajgmnfpfaaRQ
namespace Go.Proofs.Ytkbmiajgmnfpfaa.NumK
open Go.RowKit
set_option linter.unusedVariables false

set_option maxRecDepth 100000 in
set_option maxHeartbeats 4000000 in
theorem rof_any (b : Bk) (A1 A2 : Option Addr) (n1 n2 c1 c2 : Nat) (k1 k2 : Int) (w : World) (h : InB w b A1 A2 n1 n2 c1 c2) (hn : n2 ≤ 100000) :
    Calls Try.prog 17 #[vBk b.1 A1 A2 n1 n2 c1 c2, vKy (k1, k2)] w fun e w' => e = .returned (vPo (ofP b.2.2 (k1, k2))) ∧ Grew w w' := by
  have HI := Lib.hid h.p
  have HL := Lib.hid h.p.len
  have HF := Lib.hid (of_found b.2.2 (k1, k2))
  have HNo := Lib.hid (of_none b.2.2 (k1, k2))
  clear h
  dsimp only [vBk, vKy]
  have HX0 : Hid (OwnC (((w.alloc (.cells #[.int .i64 b.1, .slice A1 n1 c1, .slice A2 n2 c2] 25)).alloc (.cells #[.int .i64 k1, .int .i64 k2] 27)).alloc (.cells #[.int .i64 0, .int .i64 0, .int .i64 0, .int .i64 0] 36)) w.heap.size [.int .i64 b.1, .slice A1 n1 c1, .slice A2 n2 c2]) := ((OwnC.new w [.int .i64 b.1, .slice A1 n1 c1, .slice A2 n2 c2] _ _ rfl).keep (grew_alloc _ _ _)).keep (grew_alloc _ _ _)
  have HY0 : Hid (OwnC (((w.alloc (.cells #[.int .i64 b.1, .slice A1 n1 c1, .slice A2 n2 c2] 25)).alloc (.cells #[.int .i64 k1, .int .i64 k2] 27)).alloc (.cells #[.int .i64 0, .int .i64 0, .int .i64 0, .int .i64 0] 36)) (w.heap.size + 1) [.int .i64 k1, .int .i64 k2]) := (OwnC.new _ [.int .i64 k1, .int .i64 k2] _ _ (by simp)).keep (grew_alloc _ _ _)
  have HZ0 : Hid (OwnC (((w.alloc (.cells #[.int .i64 b.1, .slice A1 n1 c1, .slice A2 n2 c2] 25)).alloc (.cells #[.int .i64 k1, .int .i64 k2] 27)).alloc (.cells #[.int .i64 0, .int .i64 0, .int .i64 0, .int .i64 0] 36)) (w.heap.size + 1 + 1) [.int .i64 0, .int .i64 0, .int .i64 0, .int .i64 0]) := OwnC.new _ [.int .i64 0, .int .i64 0, .int .i64 0, .int .i64 0] _ _ (by simp)
  have HG0 : Hid (Grew w (((w.alloc (.cells #[.int .i64 b.1, .slice A1 n1 c1, .slice A2 n2 c2] 25)).alloc (.cells #[.int .i64 k1, .int .i64 k2] 27)).alloc (.cells #[.int .i64 0, .int .i64 0, .int .i64 0, .int .i64 0] 36))) := grew_trans (grew_trans (grew_alloc _ _ _) (grew_alloc _ _ _)) (grew_alloc _ _ _)
  generalize b.1 = nx at *
  generalize b.2.2 = l at *
  generalize ofP l (k1, k2) = R at *
  go_enter Try.func17, Try.ntmps17
  go_upto_region 1 with fail
  generalize ((w.alloc (.cells #[.int .i64 nx, .slice A1 n1 c1, .slice A2 n2 c2] 25)).alloc (.cells #[.int .i64 k1, .int .i64 k2] 27)).alloc (.cells #[.int .i64 0, .int .i64 0, .int .i64 0, .int .i64 0] 36) = w0 at *
  go_wp2
  go_loopw [5] (fun v wr => ∃ j : Nat, v = .int .i64 j ∧ j ≤ n2 ∧ Hid (∀ i, i < j → isK (k1, k2) (l.getD i po0) = false) ∧ Hid (Grew w0 wr)) (fun v _ => n2 - (intOf v).toNat)
  case atStart => exact ⟨0, rfl, by omega, (by intro i hi; omega), grew_refl _⟩
  case round =>
    obtain ⟨j, rfl, hj, HK, HG⟩ := hrel
    have HGW := Lib.hid (grew_trans HG0.out HG.out)
    have HX := Lib.hid (HX0.out.keep HG.out)
    have HZ := Lib.hid (HZ0.out.keep HG.out)
    have HY := Lib.hid (HY0.out.keep HG.out)
    have x2 : wr.cell? ⟨w.heap.size, 2, none⟩ = some (.slice A2 n2 c2) := HX.out.at 2 _ rfl
    by_cases hlt : j < n2
    · have hjl : j < l.length := by rw [HL.out]; exact hlt
      obtain ⟨bb, o, rfl, hb, hc⟩ := (HI.out.keep HGW.out).po hlt
      have HC := Lib.hid (hc j hlt)
      have HBB := Lib.hid hb
      have HF1 := Lib.hid (HF.out j hjl HK.out)
      have HK1 : Hid (isK (k1, k2) (l.getD j po0) = false → ∀ i, i < j + 1 → isK (k1, k2) (l.getD i po0) = false) := fun h i hi => by
        rcases Nat.lt_or_ge i j with h1 | h1
        · exact HK.out i h1
        · obtain rfl : i = j := by omega
          exact h
      have HM := Lib.hid (isK_alt k1 k2 (l.getD j po0))
      have i0 : (0 : Int) ≤ (j : Int) := by omega
      have i1 : (j : Int) < (n2 : Int) := by omega
      clear hc hb HNo HF
      generalize isK (k1, k2) (l.getD j po0) = im at *
      generalize l.getD j po0 = x at *
      obtain ⟨q1, q2, q3, q4⟩ := x
      dsimp only at HM
      have m0 := grew_every (w := wr) (S := fun w' => w'.cell? ⟨bb, o + j * 4, none⟩ = some (.int .i64 q1)) (fun w' g => (HC.out.keep g HBB.out).1)
      have m1 := grew_every (w := wr) (S := fun w' => w'.cell? ⟨bb, o + j * 4 + 1, none⟩ = some (.int .i64 q2)) (fun w' g => (HC.out.keep g HBB.out).2.1)
      have m4 := grew_every (w := wr) (S := fun w' => w'.cell? ⟨w.heap.size, 2, none⟩ = some (.slice (some ⟨bb, o, none⟩) n2 c2)) (fun w' g => (HX.out.keep g).at 2 _ rfl)
      have m5 := grew_every (w := wr) (S := fun w' => w'.cell? ⟨w.heap.size + 1, 0, none⟩ = some (.int .i64 k1)) (fun w' g => (HY.out.keep g).at 0 _ rfl)
      have m6 := grew_every (w := wr) (S := fun w' => w'.cell? ⟨w.heap.size + 1, 1, none⟩ = some (.int .i64 k2)) (fun w' g => (HY.out.keep g).at 1 _ rfl)
      have H : (im = false ∧ (q1 == k1) = false) ∨ (im = false ∧ q1 = k1 ∧ (q2 == k2) = false) ∨ (im = true ∧ q1 = k1 ∧ q2 = k2) := by
        rw [HM.out]
        by_cases h1 : q1 = k1 <;> by_cases h2 : q2 = k2 <;> simp [h1, h2]
      rcases H with ⟨rfl, d1⟩ | ⟨rfl, rfl, d2⟩ | ⟨rfl, rfl, rfl⟩
      · have HK2 := Lib.hid (HK1.out rfl)
        clear HF1 HK1 HM
        go_upto_region 4 with fail
        refine wp_region_grew (by kernel_rfl) (by kernel_rfl) ?_
        repeat (go_big_quiet_step (fail))
        refine wpQuiet_nil ?_
        intro w5 hw'
        have HG5 := Lib.hid (grew_of hw')
        clear hw' m0 m1 m4 m5 m6
        go_wp2
        go_roundw
        case rel => exact ⟨j + 1, by go_num, by omega, HK2.out, grew_trans HG.out HG5.out⟩
        case measure => simp only [intOf]; omega
      · have HK2 := Lib.hid (HK1.out rfl)
        clear HF1 HK1 HM
        go_upto_region 4 with fail
        refine wp_region_grew (by kernel_rfl) (by kernel_rfl) ?_
        repeat (go_big_quiet_step (fail))
        refine wpQuiet_nil ?_
        intro w5 hw'
        have HG5 := Lib.hid (grew_of hw')
        clear hw' m0 m1 m4 m5 m6
        go_wp2
        go_roundw
        case rel => exact ⟨j + 1, by go_num, by omega, HK2.out, grew_trans HG.out HG5.out⟩
        case measure => simp only [intOf]; omega
      · have HR := Lib.hid (HF1.out rfl)
        clear HF1 HK1 HM HK
        go_upto_region 4 with fail
        refine wp_region_grew (by kernel_rfl) (by kernel_rfl) ?_
        repeat (go_big_quiet_step (fail))
        refine wpQuiet_nil ?_
        intro w8 hw'
        have HG5 := Lib.hid (grew_of hw')
        clear hw' m0 m1 m4 m5 m6
        have HZN := Lib.hid (HZ.out.keep HG5.out)
        obtain ⟨p0, p1, p2, p3⟩ := HC.out.keep HG5.out HBB.out
        dsimp only at p0 p1 p2 p3
        have u2 : w8.cell? ⟨w.heap.size, 2, none⟩ = some (.slice (some ⟨bb, o, none⟩) n2 c2) := (HX.out.keep HG5.out).at 2 _ rfl
        have z0 : w8.cell? ⟨w.heap.size + 1 + 1, 0, none⟩ = some (.int .i64 0) := HZN.out.at 0 _ rfl
        have z1 : w8.cell? ⟨w.heap.size + 1 + 1, 1, none⟩ = some (.int .i64 0) := HZN.out.at 1 _ rfl
        have z2 : w8.cell? ⟨w.heap.size + 1 + 1, 2, none⟩ = some (.int .i64 0) := HZN.out.at 2 _ rfl
        have z3 : w8.cell? ⟨w.heap.size + 1 + 1, 3, none⟩ = some (.int .i64 0) := HZN.out.at 3 _ rfl
        have f0 : w8.frozen? ⟨w.heap.size + 1 + 1, 0, none⟩ = false := HZN.out.fr 0 (by decide)
        have f1 : w8.frozen? ⟨w.heap.size + 1 + 1, 1, none⟩ = false := HZN.out.fr 1 (by decide)
        have f2 : w8.frozen? ⟨w.heap.size + 1 + 1, 2, none⟩ = false := HZN.out.fr 2 (by decide)
        have f3 : w8.frozen? ⟨w.heap.size + 1 + 1, 3, none⟩ = false := HZN.out.fr 3 (by decide)
        go_wp2
        have HP := HZN.out.all [.int .i64 q1, .int .i64 q2, .int .i64 q3, .int .i64 q4] rfl
        have HGP := grew_put (w := w) (w.heap.size + 1 + 1) (by omega) [.int .i64 q1, .int .i64 q2, .int .i64 q3, .int .i64 q4] 0 _ (grew_trans HGW.out HG5.out)
        change bodyPost _ _ _ _ _ (putC w8 (w.heap.size + 1 + 1) 0 [.int .i64 q1, .int .i64 q2, .int .i64 q3, .int .i64 q4])
        clear z0 z1 z2 z3
        generalize putC w8 (w.heap.size + 1 + 1) 0 [.int .i64 q1, .int .i64 q2, .int .i64 q3, .int .i64 q4] = w9 at *
        have z0 : w9.cell? ⟨w.heap.size + 1 + 1, 0, none⟩ = _ := HP.at 0 _ rfl
        have z1 : w9.cell? ⟨w.heap.size + 1 + 1, 1, none⟩ = _ := HP.at 1 _ rfl
        have z2 : w9.cell? ⟨w.heap.size + 1 + 1, 2, none⟩ = _ := HP.at 2 _ rfl
        have z3 : w9.cell? ⟨w.heap.size + 1 + 1, 3, none⟩ = _ := HP.at 3 _ rfl
        refine bodyPost_ret (v := .agg #[.int .i64 q1, .int .i64 q2, .int .i64 q3, .int .i64 q4]) (by simp [results, Try.results17, go_sem, z0, z1, z2, z3]) rfl ?_
        rw [HR.out]
        exact ⟨rfl, HGP⟩
    · obtain rfl : j = n2 := by omega
      have HR := Lib.hid (HNo.out (fun i hi => HK.out i (by rw [HL.out] at hi; exact hi)))
      have y0 : wr.cell? ⟨w.heap.size + 1, 0, none⟩ = some (.int .i64 k1) := HY.out.at 0 _ rfl
      have y1 : wr.cell? ⟨w.heap.size + 1, 1, none⟩ = some (.int .i64 k2) := HY.out.at 1 _ rfl
      have z0 : wr.cell? ⟨w.heap.size + 1 + 1, 0, none⟩ = some (.int .i64 0) := HZ.out.at 0 _ rfl
      have z1 : wr.cell? ⟨w.heap.size + 1 + 1, 1, none⟩ = some (.int .i64 0) := HZ.out.at 1 _ rfl
      have z2 : wr.cell? ⟨w.heap.size + 1 + 1, 2, none⟩ = some (.int .i64 0) := HZ.out.at 2 _ rfl
      have z3 : wr.cell? ⟨w.heap.size + 1 + 1, 3, none⟩ = some (.int .i64 0) := HZ.out.at 3 _ rfl
      have f0 : wr.frozen? ⟨w.heap.size + 1 + 1, 0, none⟩ = false := HZ.out.fr 0 (by decide)
      have f1 : wr.frozen? ⟨w.heap.size + 1 + 1, 1, none⟩ = false := HZ.out.fr 1 (by decide)
      have f2 : wr.frozen? ⟨w.heap.size + 1 + 1, 2, none⟩ = false := HZ.out.fr 2 (by decide)
      have f3 : wr.frozen? ⟨w.heap.size + 1 + 1, 3, none⟩ = false := HZ.out.fr 3 (by decide)
      clear HF HNo HK
      go_wp2
      have HP := HZ.out.all [.int .i64 k1, .int .i64 k2, .int .i64 0, .int .i64 0] rfl
      have HGP := grew_put (w := w) (w.heap.size + 1 + 1) (by omega) [.int .i64 k1, .int .i64 k2, .int .i64 0, .int .i64 0] 0 _ HGW.out
      change bodyPost _ _ _ _ _ (putC wr (w.heap.size + 1 + 1) 0 [.int .i64 k1, .int .i64 k2, .int .i64 0, .int .i64 0])
      clear z0 z1 z2 z3
      generalize putC wr (w.heap.size + 1 + 1) 0 [.int .i64 k1, .int .i64 k2, .int .i64 0, .int .i64 0] = w9 at *
      have z0 : w9.cell? ⟨w.heap.size + 1 + 1, 0, none⟩ = _ := HP.at 0 _ rfl
      have z1 : w9.cell? ⟨w.heap.size + 1 + 1, 1, none⟩ = _ := HP.at 1 _ rfl
      have z2 : w9.cell? ⟨w.heap.size + 1 + 1, 2, none⟩ = _ := HP.at 2 _ rfl
      have z3 : w9.cell? ⟨w.heap.size + 1 + 1, 3, none⟩ = _ := HP.at 3 _ rfl
      refine bodyPost_ret (v := .agg #[.int .i64 k1, .int .i64 k2, .int .i64 0, .int .i64 0]) (by simp [results, Try.results17, go_sem, z0, z1, z2, z3]) rfl ?_
      rw [HR.out]
      exact ⟨rfl, HGP⟩
end Go.Proofs.Ytkbmiajgmnfpfaa.NumK
namespace Go.Proofs.Ytkbmiajgmnfpfaa.NumK
open Go.RowKit
set_option linter.unusedVariables false

theorem fok_not (l : List Po) (p : Po → Bool) (j : Nat) (h : j < l.length) (hp : p (l.getD j po0) = true) (hx : okAm (l.getD j po0) = false) : (l.filter p).all okAm = false := by
  rw [List.all_eq_false]
  exact ⟨_, List.mem_filter.2 ⟨getD_mem l po0 j h, hp⟩, by rw [hx]; decide⟩

set_option maxRecDepth 100000 in
set_option maxHeartbeats 4000000 in
theorem rboth_any (b : Bk) (A1 A2 : Option Addr) (n1 n2 c1 c2 : Nat) (m : Int) (w : World) (h : InB w b A1 A2 n1 n2 c1 c2) (hn : n2 ≤ 100000) :
    Calls Try.prog 12 #[vBk b.1 A1 A2 n1 n2 c1 c2, .int .i64 m] w fun e w' => e = .returned (.tuple #[.int .i64 (bothQ b.2.2 m), .int .i64 (bothC b.2.2 m)]) ∧ Grew w w' := by
  have HI := Lib.hid h.p
  have HL := Lib.hid h.p.len
  obtain ⟨e1, e2⟩ := both_sum b.2.2 m
  rw [e1, e2]
  clear h e1 e2
  dsimp only [vBk]
  generalize b.1 = nx at *
  generalize b.2.2 = l at *
  have HN : Hid ((l.filter (isI m)).all okAm = false → sumPQ (l.filter (isI m)) = 0 ∧ sumPC (l.filter (isI m)) = 0) := fun h => (sumP_arg h).2
  have HB : Hid ((l.filter (isI m)).all okAm = true → (isMoney (qtys (l.filter (isI m))).sum && isMoney (csts (l.filter (isI m))).sum) = false → sumPQ (l.filter (isI m)) = 0 ∧ sumPC (l.filter (isI m)) = 0) := fun h h2 => (sumP_big h h2).2
  have HY : Hid ((l.filter (isI m)).all okAm = true → isMoney (qtys (l.filter (isI m))).sum = true → isMoney (csts (l.filter (isI m))).sum = true → sumPQ (l.filter (isI m)) = (qtys (l.filter (isI m))).sum ∧ sumPC (l.filter (isI m)) = (csts (l.filter (isI m))).sum) := fun h h2 h3 => (sumP_ok h h2 h3).2
  generalize sumPQ (l.filter (isI m)) = RQ at *
  generalize sumPC (l.filter (isI m)) = RC at *
  have HX0 : Hid (OwnC (w.alloc (.cells #[.int .i64 nx, .slice A1 n1 c1, .slice A2 n2 c2] 25)) w.heap.size [.int .i64 nx, .slice A1 n1 c1, .slice A2 n2 c2]) := OwnC.new w [.int .i64 nx, .slice A1 n1 c1, .slice A2 n2 c2] _ _ rfl
  have HG0 : Hid (Grew w (w.alloc (.cells #[.int .i64 nx, .slice A1 n1 c1, .slice A2 n2 c2] 25))) := grew_alloc _ _ _
  go_enter Try.func12, Try.ntmps12
  go_upto_region 1 with fail
  generalize w.alloc (.cells #[.int .i64 nx, .slice A1 n1 c1, .slice A2 n2 c2] 25) = wA at *
  go_wp2
  go_loopw [6, 7, 8] (fun va vb vi wr => ∃ j : Nat, vi = .int .i64 j ∧ j ≤ n2 ∧ Hid (((l.take j).filter (isI m)).all okAm = true) ∧ Hid (Two enInt enInt wr wA.heap.size 3 3 va vb (qtys ((l.take j).filter (isI m))) (csts ((l.take j).filter (isI m)))) ∧ Hid (Grew wA wr)) (fun _ _ vi _ => n2 - (intOf vi).toNat)
  case atStart => exact ⟨0, rfl, by omega, rfl, Two.nil _ _ _ _ _ _, grew_refl _⟩
  case round =>
    obtain ⟨j, rfl, hj, HM, HT, HG⟩ := hrel
    have HX := Lib.hid (HX0.out.keep HG.out)
    have x2 : wr.cell? ⟨w.heap.size, 2, none⟩ = some (.slice A2 n2 c2) := HX.out.at 2 _ rfl
    have HGW := Lib.hid (grew_trans HG0.out HG.out)
    by_cases hlt : j < n2
    · have hjl : j < l.length := by rw [HL.out]; exact hlt
      obtain ⟨bb, o, rfl, hb, hc⟩ := HI.out.po hlt
      have HCP : Hid (∀ w', Grew w w' → CPo w' bb (o + j * 4) (l.getD j po0)) := fun w' g => (hc j hlt).keep g hb
      obtain ⟨a0, a1, a2, a3⟩ := HCP.out _ HGW.out
      clear hc
      have HS := Lib.hid (filter_take_succ (isI m) l po0 j hjl)
      have HXX := Lib.hid (fok_not l (isI m) j hjl)
      have HO : Hid (okAm (l.getD j po0) = (isMoney (l.getD j po0).2.2.1 && isMoney (l.getD j po0).2.2.2)) := rfl
      have HIM : Hid (isI m (l.getD j po0) = decide ((l.getD j po0).2.1 = m)) := rfl
      have hlq : (qtys ((l.take j).filter (isI m))).length ≤ j := by rw [qtys_len]; exact filt_len _ _ _
      have hlc : (csts ((l.take j).filter (isI m))).length ≤ j := by rw [csts_len]; exact filt_len _ _ _
      have HLQ := Lib.hid hlq
      have HLC := Lib.hid hlc
      clear hb hlq hlc
      have CR1 := fun w => refRight_any (l.getD j po0).2.2.1 w
      have CR2 := fun w => refRight_any (l.getD j po0).2.2.2 w
      have i0 : (0 : Int) ≤ (j : Int) := by omega
      have i1 : (j : Int) < (n2 : Int) := by omega
      generalize (l.take j).filter (isI m) = lj at *
      have HOKA : Hid (∀ y, l.getD j po0 = y → okAm y = okAm (l.getD j po0)) := fun y hy => by rw [hy]
      generalize okAm (l.getD j po0) = ok at *
      generalize isI m (l.getD j po0) = im at *
      generalize l.getD j po0 = x at *
      obtain ⟨q1, q2, q3, q4⟩ := x
      dsimp only at a0 a1 a2 a3 CR1 CR2 HO HIM
      have HOKX := Lib.hid (HOKA.out _ rfl)
      rw [HO.out] at HOKX
      clear HOKA
      by_cases hm : q2 = m
      · have him : im = true := by rw [HIM.out, decide_eq_true hm]
        subst him
        subst hm
        have HS2 : Hid ((l.take (j + 1)).filter (isI q2) = lj ++ [(q1, q2, q3, q4)]) := HS.out
        clear HS HIM
        generalize isMoney q3 = M1 at *
        generalize isMoney q4 = M2 at *
        cases M1
        · obtain ⟨rfl, rfl⟩ := HN.out (HXX.out rfl (by rw [HO.out]; rfl))
          clear HN HB HY HXX HO HS2
          go_wp2_with (go_at_call 31; ((with_reducible refine (CR1 _).mono ?_); rintro e w1 ⟨rfl, rfl⟩))
          go_ret2
          exact ⟨rfl, HGW.out⟩
        · cases M2
          · obtain ⟨rfl, rfl⟩ := HN.out (HXX.out rfl (by rw [HO.out]; rfl))
            clear HN HB HY HXX HO HS2
            go_wp2_with (first
              | (go_at_call 31; ((with_reducible refine (CR1 _).mono ?_); rintro e w1 ⟨rfl, rfl⟩))
              | (go_at_call 31; ((with_reducible refine (CR2 _).mono ?_); rintro e w1 ⟨rfl, rfl⟩)))
            go_ret2
            exact ⟨rfl, HGW.out⟩
          · have HM2 : Hid (((l.take (j + 1)).filter (isI q2)).all okAm = true) := by
              show _ = _
              rw [HS2.out, List.all_append, HM.out]
              simp only [List.all_cons, List.all_nil, Bool.and_true, Bool.true_and]
              exact HOKX.out
            clear HXX
            have HSQ : Hid (qtys lj ++ [q3] = qtys ((l.take (j + 1)).filter (isI q2))) := by show _ = _; rw [HS2.out]; unfold qtys; rw [List.map_append]; rfl
            have HSC : Hid (csts lj ++ [q4] = csts ((l.take (j + 1)).filter (isI q2))) := by show _ = _; rw [HS2.out]; unfold csts; rw [List.map_append]; rfl
            clear HN HB HY HO HS2 HM
            go_wp2_with (first
              | (go_at_call 31; ((with_reducible refine (CR1 _).mono ?_); rintro e w1 ⟨rfl, rfl⟩))
              | (go_at_call 31; ((with_reducible refine (CR2 _).mono ?_); rintro e w1 ⟨rfl, rfl⟩))
              | (at_builtin; refine (wpList_two (E := enInt) (F := enInt) (s := 3) (t := 3) (base := wA.heap.size) rfl _ _ 63 (.int .i64 0) 8 rfl Try.underlying63 info_int1 rfl (HT.out.keep (grew_alloc wr _ _)) rfl _ q3 rfl (RowE.one1 enInt wr q3 _ _ _ rfl rfl) (by have := HLQ.out; unfold maxLen; omega) (by have := HLQ.out; omega) (Nat.le_trans HG.out.size (by simp)) ?_); intro v1 w1 ht hb; have HT1 := Lib.hid ht; have HG1 : Hid (Grew wA w1) := Below.trans (grew_trans HG.out (grew_alloc _ _ _)) hb; have x2b : w1.cell? ⟨w.heap.size, 2, none⟩ = some (.slice (some ⟨bb, o, none⟩) n2 c2) := (HX0.out.keep HG1.out).at 2 _ rfl; have a3b : w1.cell? ⟨bb, o + j * 4 + 3, none⟩ = some (.int .i64 q4) := (HCP.out _ (grew_trans HG0.out HG1.out)).2.2.2; clear ht hb)
              | (at_builtin; refine (wpList_two (E := enInt) (F := enInt) (s := 3) (t := 3) (base := wA.heap.size) rfl _ _ 63 (.int .i64 0) 8 rfl Try.underlying63 info_int1 rfl (HT1.out.swap.keep (grew_alloc w1 _ _)) rfl _ q4 rfl (RowE.one1 enInt w1 q4 _ _ _ rfl rfl) (by have := HLC.out; unfold maxLen; omega) (by have := HLC.out; omega) (Nat.le_trans HG1.out.size (by simp)) ?_); intro v2 w2 ht hb; have HT2 := Lib.hid ht.swap; have HG2 : Hid (Grew wA w2) := Below.trans (grew_trans HG1.out (grew_alloc _ _ _)) hb; clear ht hb))
            go_roundw
            case rel => exact ⟨j + 1, by go_num, by omega, HM2.out, (by rw [← HSQ.out, ← HSC.out]; exact HT2.out), HG2.out⟩
            case measure => simp only [intOf]; omega
      · have him : im = false := by rw [HIM.out, decide_eq_false hm]
        subst him
        have HS2 : Hid ((l.take (j + 1)).filter (isI m) = lj) := by show _ = _; rw [HS.out]; simp
        have d0 : (q2 == m) = false := by simpa using hm
        clear HS HIM hm HXX HO HN HB HY
        go_wp2
        go_roundw
        case rel => exact ⟨j + 1, by go_num, by omega, by rw [HS2.out]; exact HM.out, by rw [HS2.out]; exact HT.out, HG.out⟩
        case measure => simp only [intOf]; omega
    · obtain rfl : j = n2 := by omega
      have ht : l.take j = l := List.take_of_length_le (by rw [HL.out]; exact Nat.le_refl _)
      rw [ht] at HM HT
      have hfl : (l.filter (isI m)).length ≤ 100000 := Nat.le_trans (List.length_filter_le _ _) (by rw [HL.out]; exact hn)
      generalize l.filter (isI m) = fl at *
      obtain ⟨A3, c3, hv3, hr3, -, -, -⟩ := HT.out.a.form
      obtain ⟨A4, c4, hv4, hr4, -, -, -⟩ := HT.out.b.form
      rw [qtys_len] at hv3 hr3
      rw [csts_len] at hv4 hr4
      subst hv3 hv4
      have hok := okAm_all fl
      rw [HM.out] at hok
      have hok2 := (Bool.and_eq_true _ _).mp hok.symm
      have CA := add_any A3 _ c3 _ wr (ints_of_E hr3) (money_in _ hok2.1) (by omega)
      have CB := fun w' (g : Grew wr w') => add_any A4 _ c4 _ w' (ints_of_E (hr4.keep g)) (money_in _ hok2.2) (by omega)
      have HB2 := Lib.hid (HB.out HM.out)
      have HY2 := Lib.hid (HY.out HM.out)
      clear HN HB HY hok hok2 hr3 hr4 ht
      have HV1 : Hid (isMoney (qtys fl).sum = true → intV (qtys fl).sum = (qtys fl).sum) := fun h => by unfold intV; rw [if_pos h]
      have HV2 : Hid (isMoney (csts fl).sum = true → intV (csts fl).sum = (csts fl).sum) := fun h => by unfold intV; rw [if_pos h]
      generalize fl.length = nf at *
      generalize (qtys fl).sum = Sq at *
      generalize (csts fl).sum = Sc at *
      generalize intV Sq = Vq at *
      generalize intV Sc = Vc at *
      generalize isMoney Sq = M1 at *
      generalize isMoney Sc = M2 at *
      clear HT
      cases M1
      · obtain ⟨rfl, rfl⟩ := HB2.out rfl
        clear HB2 HY2 HV1 HV2
        go_wp2_with (first
          | (go_at_call 32; ((with_reducible refine CA.mono ?_); rintro e w1 ⟨rfl, hg⟩; have HG1 := Lib.hid hg; clear hg))
          | (go_at_call 32; ((with_reducible refine (CB _ HG1.out).mono ?_); rintro e w2 ⟨rfl, hg⟩; have HG2 := Lib.hid (grew_trans HG1.out hg); clear hg)))
        go_ret2
        exact ⟨rfl, grew_trans HGW.out HG2.out⟩
      · obtain rfl := HV1.out rfl
        cases M2
        · obtain ⟨rfl, rfl⟩ := HB2.out rfl
          clear HB2 HY2 HV1 HV2
          go_wp2_with (first
            | (go_at_call 32; ((with_reducible refine CA.mono ?_); rintro e w1 ⟨rfl, hg⟩; have HG1 := Lib.hid hg; clear hg))
            | (go_at_call 32; ((with_reducible refine (CB _ HG1.out).mono ?_); rintro e w2 ⟨rfl, hg⟩; have HG2 := Lib.hid (grew_trans HG1.out hg); clear hg)))
          go_ret2
          exact ⟨rfl, grew_trans HGW.out HG2.out⟩
        · obtain rfl := HV2.out rfl
          obtain ⟨rfl, rfl⟩ := HY2.out rfl rfl
          clear HB2 HY2 HV1 HV2
          go_wp2_with (first
            | (go_at_call 32; ((with_reducible refine CA.mono ?_); rintro e w1 ⟨rfl, hg⟩; have HG1 := Lib.hid hg; clear hg))
            | (go_at_call 32; ((with_reducible refine (CB _ HG1.out).mono ?_); rintro e w2 ⟨rfl, hg⟩; have HG2 := Lib.hid (grew_trans HG1.out hg); clear hg)))
          go_ret2
          exact ⟨rfl, grew_trans HGW.out HG2.out⟩
end Go.Proofs.Ytkbmiajgmnfpfaa.NumK
