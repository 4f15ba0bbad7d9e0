/- The sums of legs: the program's. -/
import Derived.Test.YtgblhliinjgofaaRR
import Derived.Test.YtgblhliinjgofaaRN
import Derived.Deep.RegionLaw
namespace Go.Proofs.Ytgblhliinjgofaa.NumK
open Go.RowKit
set_option linter.unusedVariables false

set_option maxRecDepth 100000 in
set_option maxHeartbeats 4000000 in
theorem psumP_any (A : Option Addr) (n c : Nat) (l : List Po) (w : World) (h : RowE enPo w A n l) (hn : n ≤ 100000) :
    Calls Try.prog 19 #[.slice A n c] w (SumPost l w) := by
  have HI := Lib.hid h
  have HL := Lib.hid h.len
  have HN := Lib.hid (@post_arg l)
  have HB := Lib.hid (@post_big l)
  have HY := Lib.hid (@post_ok l)
  clear h
  generalize hPP : SumPost l w = PP at *
  replace HN : Hid (l.all okAm = false → ∀ w', Grew w w' → PP (.returned (.tuple #[.int .i64 0, .int .i64 0, .int .i64 3])) w') := fun h w' g => hPP ▸ HN.out h w w' g
  replace HB : Hid (l.all okAm = true → (isMoney (qtys l).sum && isMoney (csts l).sum) = false → ∀ w', Grew w w' → PP (.returned (.tuple #[.int .i64 0, .int .i64 0, .int .i64 1])) w') := fun h h2 w' g => hPP ▸ HB.out h h2 w w' g
  replace HY : Hid (l.all okAm = true → isMoney (qtys l).sum = true → isMoney (csts l).sum = true → ∀ w', Grew w w' → PP (.returned (.tuple #[.int .i64 (qtys l).sum, .int .i64 (csts l).sum, .int .i64 0])) w') := fun h h2 h3 w' g => hPP ▸ HY.out h h2 h3 w w' g
  clear hPP
  go_enter Try.func19, Try.ntmps19
  go_wp2
  go_loopw [5, 6, 13] (fun va vb vi wr => ∃ j : Nat, vi = .int .i64 j ∧ j ≤ n ∧ Hid (Two enInt enInt wr w.heap.size 3 3 va vb (qtys (l.take j)) (csts (l.take j))) ∧ Hid (Grew w wr)) (fun _ _ vi _ => n - (intOf vi).toNat)
  case atStart => exact ⟨0, rfl, by omega, Two.nil _ _ _ _ _ _, grew_refl _⟩
  case round =>
    obtain ⟨j, rfl, hj, HT, HG⟩ := hrel
    by_cases hlt : j < n
    · have hjl : j < l.length := by rw [HL.out]; exact hlt
      obtain ⟨b, o, rfl, hb, hc⟩ := HI.out.po hlt
      have HCP : Hid (∀ w', Grew w w' → CPo w' b (o + j * 4) (l.getD j po0)) := fun w' g => (hc j hlt).keep g hb
      obtain ⟨a0, a1, a2, a3⟩ := HCP.out _ HG.out
      clear hc hb
      have HQ := Lib.hid (qtys_succ l j hjl)
      have HC := Lib.hid (csts_succ l j hjl)
      have HLQ : Hid ((qtys (l.take j)).length = j) := by show _ = _; rw [qtys_len, List.length_take]; omega
      have HLC : Hid ((csts (l.take j)).length = j) := by show _ = _; rw [csts_len, List.length_take]; omega
      have i0 : (0 : Int) ≤ (j : Int) := by omega
      have i1 : (j : Int) < (n : Int) := by omega
      generalize l.getD j po0 = x at *
      obtain ⟨q1, q2, q3, q4⟩ := x
      dsimp only at a0 a1 a2 a3 HQ HC
      clear HN HB HY HCP
      go_wp2
      have HG0 : Hid (Grew w (wr.alloc (.cells #[.int .i64 q1, .int .i64 q2, .int .i64 q3, .int .i64 q4] 48))) := grew_trans HG.out (grew_alloc _ _ _)
      have HX0 : Hid (OwnC (wr.alloc (.cells #[.int .i64 q1, .int .i64 q2, .int .i64 q3, .int .i64 q4] 48)) wr.heap.size [.int .i64 q1, .int .i64 q2, .int .i64 q3, .int .i64 q4]) := OwnC.new wr [.int .i64 q1, .int .i64 q2, .int .i64 q3, .int .i64 q4] _ _ rfl
      have HT0 := Lib.hid (HT.out.keep (grew_alloc wr #[.int .i64 q1, .int .i64 q2, .int .i64 q3, .int .i64 q4] 48))
      have HF0 := Lib.hid (HT.out.far (Nat.le_refl _))
      generalize wr.alloc (.cells #[.int .i64 q1, .int .i64 q2, .int .i64 q3, .int .i64 q4] 48) = w0 at *
      have x2 : w0.cell? ⟨wr.heap.size, 2, none⟩ = some (.int .i64 q3) := HX0.out.at 2 _ rfl
      have x3 : w0.cell? ⟨wr.heap.size, 3, none⟩ = some (.int .i64 q4) := HX0.out.at 3 _ rfl
      have hN0 : wr.heap.size < w0.heap.size := HX0.out.lt
      have HS0 := Lib.hid HG0.out.size
      clear a0 a1 a2 a3 HX0 HT HG
      generalize wr.heap.size = N0 at *
      go_region_law (first
        | (refine step_two (E := enInt) (F := enInt) (s := 3) (t := 3) (base := w.heap.size) rfl _ _ 67 (.int .i64 0) 8 rfl Try.underlying67 info_int1 rfl (HT0.out.keep (by repeat (first | exact grew_refl _ | refine grew_drew ?_ | refine grew_trans ?_ (grew_alloc _ _ _)))) rfl _ q3 rfl (by first | exact (RowE.one1 enInt _ _ _ _ _ (by simp) rfl).keep (grew_drew (grew_refl _)) | exact (RowE.one1 enInt _ _ _ _ _ (by simp) rfl).keep (grew_drew (grew_alloc _ _ _))) (by rw [HLQ.out]; unfold maxLen; omega) (by rw [HLQ.out]; omega) (by simp; have := HS0.out; omega) ?_; intro v1 w1 ht hb hg; have HT1 := Lib.hid ht; have HG1 : Hid (Grew w w1) := Below.trans (grew_trans HG0.out (by repeat (first | exact grew_refl _ | refine grew_drew ?_ | refine grew_trans ?_ (grew_alloc _ _ _)))) hb; have HL1 : Hid (∀ N, RowE enInt _ (some ⟨N, 0, none⟩) 1 [q4] → w0.heap.size ≤ N → RowE enInt w1 (some ⟨N, 0, none⟩) 1 [q4]) := fun N h hN => h.grown hg (HT0.out.far hN).1; have y3 : w1.cell? ⟨N0, 3, none⟩ = some (.int .i64 q4) := (hg.cell_far ⟨N0, 3, none⟩ (by simp; omega) HF0.out.1).trans ((grew_cell (w := w0) (by repeat (first | exact grew_refl _ | refine grew_drew ?_ | refine grew_trans ?_ (grew_alloc _ _ _))) (p := ⟨N0, 3, none⟩) hN0).trans x3); clear ht hb hg)
        | (refine step_two (E := enInt) (F := enInt) (s := 3) (t := 3) (base := w.heap.size) rfl _ _ 67 (.int .i64 0) 8 rfl Try.underlying67 info_int1 rfl (HT1.out.swap.keep (by repeat (first | exact grew_refl _ | refine grew_drew ?_ | refine grew_trans ?_ (grew_alloc _ _ _)))) rfl _ q4 rfl (by first | exact RowE.one1 enInt _ _ _ _ _ (by simp) rfl | exact HL1.out _ ((RowE.one1 enInt _ _ _ _ _ (by simp) rfl).keep (grew_drew (grew_refl _))) (by simp) | exact HL1.out _ ((RowE.one1 enInt _ _ _ _ _ (by simp) rfl).keep (grew_drew (grew_alloc _ _ _))) (by simp)) (by rw [HLC.out]; unfold maxLen; omega) (by rw [HLC.out]; omega) (by first | exact HG1.out.size | (simp; have := HG1.out.size; omega)) ?_; intro v2 w2 ht hb hg; have HT2 := Lib.hid ht.swap; have HG2 : Hid (Grew w w2) := Below.trans (grew_trans HG1.out (by repeat (first | exact grew_refl _ | refine grew_drew ?_ | refine grew_trans ?_ (grew_alloc _ _ _)))) hb; clear ht hb hg))
      all_goals (
        go_wp2
        go_roundw
        case rel => exact ⟨j + 1, by go_num, by omega, (by rw [HQ.out, HC.out]; exact HT2.out), HG2.out⟩
        case measure => simp only [intOf]; omega)
    · obtain rfl : j = n := by omega
      have ht : l.take j = l := List.take_of_length_le (by rw [HL.out]; exact Nat.le_refl _)
      rw [ht] at HT
      obtain ⟨A3, c3, hv3, hr3, -, -, -⟩ := HT.out.a.form
      obtain ⟨A4, c4, hv4, hr4, -, -, -⟩ := HT.out.b.form
      rw [qtys_len, HL.out] at hv3 hr3
      rw [csts_len, HL.out] at hv4 hr4
      subst hv3 hv4
      have hok := okAm_all l
      have CR1 := fun w' (g : Grew wr w') => right_any A3 j c3 (qtys l) w' (ints_of_E (hr3.keep g)) (by omega)
      have CR2 := fun w' (g : Grew wr w') => right_any A4 j c4 (csts l) w' (ints_of_E (hr4.keep g)) (by omega)
      replace CR1 := CR1 wr (grew_refl _)
      replace CR2 := CR2 wr (grew_refl _)
      have CS1 := sum_any A3 j c3 (qtys l) wr (ints_of_E hr3) (by omega)
      have CS2 := fun w' (g : Grew wr w') => sum_any A4 j c4 (csts l) w' (ints_of_E (hr4.keep g)) (by omega)
      have HV1 : Hid ((qtys l).all isMoney = true → sumV (qtys l) = capV (qtys l).sum ∧ sumE (qtys l) = capE (qtys l).sum) := fun h => ⟨sumV_in h, sumE_in h⟩
      have HV2 : Hid ((csts l).all isMoney = true → sumV (csts l) = capV (csts l).sum ∧ sumE (csts l) = capE (csts l).sum) := fun h => ⟨sumV_in h, sumE_in h⟩
      have HU1 : Hid (isMoney (qtys l).sum = true → capV (qtys l).sum = (qtys l).sum ∧ capE (qtys l).sum = 0) := fun h => ⟨capV_in h, capE_in h⟩
      have HU2 : Hid (isMoney (csts l).sum = true → capV (csts l).sum = (csts l).sum ∧ capE (csts l).sum = 0) := fun h => ⟨capV_in h, capE_in h⟩
      have HW1 : Hid (isMoney (qtys l).sum = false → capE (qtys l).sum = 1) := fun h => capE_out h
      have HW2 : Hid (isMoney (csts l).sum = false → capE (csts l).sum = 1) := fun h => capE_out h
      clear HT hr3 hr4 ht
      have HOK := Lib.hid hok
      clear hok
      generalize l.all okAm = OKL at *
      generalize (qtys l).all isMoney = R1 at *
      generalize (csts l).all isMoney = R2 at *
      generalize sumV (qtys l) = SV1 at *
      generalize sumV (csts l) = SV2 at *
      generalize sumE (qtys l) = SE1 at *
      generalize sumE (csts l) = SE2 at *
      generalize (qtys l).sum = Sq at *
      generalize (csts l).sum = Sc at *
      generalize capV Sq = Vq at *
      generalize capV Sc = Vc at *
      generalize capE Sq = Eq at *
      generalize capE Sc = Ec at *
      generalize isMoney Sq = M1 at *
      generalize isMoney Sc = M2 at *
      cases R1
      · have HF := Lib.hid (HN.out (by rw [HOK.out]; rfl) _ HG.out)
        clear HN HB HY HOK HV1 HV2 HU1 HU2 HW1 HW2 CS1 CS2 CR2
        go_wp2_with (go_at_call 34; ((with_reducible refine (CR1.mono ?_)); rintro e w1 ⟨rfl, rfl⟩))
        go_ret3
        exact HF.out
      · cases R2
        · have HF := Lib.hid (HN.out (by rw [HOK.out]; rfl) _ HG.out)
          clear HN HB HY HOK HV1 HV2 HU1 HU2 HW1 HW2 CS1 CS2
          go_wp2_with (first | (go_at_call 34; ((with_reducible refine (CR1.mono ?_)); rintro e w1 ⟨rfl, rfl⟩)) | (go_at_call 34; ((with_reducible refine (CR2.mono ?_)); rintro e w1 ⟨rfl, rfl⟩)))
          go_ret3
          exact HF.out
        · have hOK : OKL = true := by rw [HOK.out]; rfl
          have HB2 := Lib.hid (HB.out hOK)
          have HY2 := Lib.hid (HY.out hOK)
          obtain ⟨rfl, rfl⟩ := HV1.out rfl
          obtain ⟨rfl, rfl⟩ := HV2.out rfl
          clear HN HB HY HOK hOK HV1 HV2
          cases M1
          · obtain rfl := HW1.out rfl
            have HF := Lib.hid (HB2.out rfl)
            clear HB2 HY2 HU1 HU2 HW1 HW2
            go_wp2_with (first | (go_at_call 34; ((with_reducible refine (CR1.mono ?_)); rintro e w1 ⟨rfl, rfl⟩)) | (go_at_call 34; ((with_reducible refine (CR2.mono ?_)); rintro e w1 ⟨rfl, rfl⟩)) | (go_at_call 35; ((with_reducible refine (CS1.mono ?_)); rintro e w2 ⟨rfl, hg⟩; have HG1 := Lib.hid hg; clear hg)) | (go_at_call 35; ((with_reducible refine (CS2 _ HG1.out).mono ?_); rintro e w3 ⟨rfl, hg⟩; have HG2 := Lib.hid (grew_trans HG1.out hg); clear hg)))
            go_ret3
            exact HF.out _ (grew_trans HG.out HG2.out)
          · obtain ⟨rfl, rfl⟩ := HU1.out rfl
            cases M2
            · obtain rfl := HW2.out rfl
              have HF := Lib.hid (HB2.out rfl)
              clear HB2 HY2 HU1 HU2 HW1 HW2
              go_wp2_with (first | (go_at_call 34; ((with_reducible refine (CR1.mono ?_)); rintro e w1 ⟨rfl, rfl⟩)) | (go_at_call 34; ((with_reducible refine (CR2.mono ?_)); rintro e w1 ⟨rfl, rfl⟩)) | (go_at_call 35; ((with_reducible refine (CS1.mono ?_)); rintro e w2 ⟨rfl, hg⟩; have HG1 := Lib.hid hg; clear hg)) | (go_at_call 35; ((with_reducible refine (CS2 _ HG1.out).mono ?_); rintro e w3 ⟨rfl, hg⟩; have HG2 := Lib.hid (grew_trans HG1.out hg); clear hg)))
              go_ret3
              exact HF.out _ (grew_trans HG.out HG2.out)
            · obtain ⟨rfl, rfl⟩ := HU2.out rfl
              have HF := Lib.hid (HY2.out rfl rfl)
              clear HB2 HY2 HU1 HU2 HW1 HW2
              go_wp2_with (first | (go_at_call 34; ((with_reducible refine (CR1.mono ?_)); rintro e w1 ⟨rfl, rfl⟩)) | (go_at_call 34; ((with_reducible refine (CR2.mono ?_)); rintro e w1 ⟨rfl, rfl⟩)) | (go_at_call 35; ((with_reducible refine (CS1.mono ?_)); rintro e w2 ⟨rfl, hg⟩; have HG1 := Lib.hid hg; clear hg)) | (go_at_call 35; ((with_reducible refine (CS2 _ HG1.out).mono ?_); rintro e w3 ⟨rfl, hg⟩; have HG2 := Lib.hid (grew_trans HG1.out hg); clear hg)))
              go_ret3
              exact HF.out _ (grew_trans HG.out HG2.out)
end Go.Proofs.Ytgblhliinjgofaa.NumK
