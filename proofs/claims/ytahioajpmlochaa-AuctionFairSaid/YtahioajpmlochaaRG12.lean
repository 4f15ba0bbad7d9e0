/- The reference's Legs. -/
import Derived.Test.YtahioajpmlochaaRG11
import Derived.Test.YtahioajpmlochaaRG6
import Derived.Deep.RegionHeld3
namespace Go.Proofs.Ytahioajpmlochaa.NumK
open Go.RowKit
set_option linter.unusedVariables false

theorem rmul_of {f : Fi} (h : okFi f = true) : isMoney f.2.1 = true ∧ isMoney f.2.2 = true ∧ (okMu f = true → intV (f.2.1 * f.2.2) = f.2.1 * f.2.2) := by
  have h1 := (okFi_iff f).1 h
  refine ⟨(isMoney_iff _).2 (by omega), (isMoney_iff _).2 (by omega), fun h3 => ?_⟩
  unfold okMu at h3
  unfold intV
  rw [h3]; rfl

set_option maxRecDepth 100000 in
set_option maxHeartbeats 8000000 in
theorem raflegs_any (k : Ky) (long : Bool) (A : Option Addr) (n c : Nat) (fs : List Fi) (w : World) (h : RowE enD3 w A n fs) (hn : n ≤ 100000) :
    Calls Try.prog 16 #[.agg #[.int .i64 k.1, .int .i64 k.2], .bool long, .slice A n c] w (FlPost k long fs w) := by
  have HI := Lib.hid h
  have HL := Lib.hid h.len
  have HE3 := Lib.hid (fun j hj h => @legsE_3 fs j hj h)
  have HE1 := Lib.hid (fun j hj ha h => @legsE_1 fs j hj ha h)
  have HE0 := Lib.hid (@legsE_0 fs)
  have HNO := Lib.hid (fun r w' h hr g => @FlPost.no k long fs r w w' h hr g)
  have HYES := Lib.hid (fun v w' h ho g => @FlPost.yes k long fs v w w' h ho g)
  generalize FlPost k long fs w = Q at *
  clear h
  obtain ⟨k1, k2⟩ := k
  dsimp only
  have HX0 : Hid (OwnC (w.alloc (.cells #[.int .i64 k1, .int .i64 k2] 24)) w.heap.size [.int .i64 k1, .int .i64 k2]) := OwnC.new w [.int .i64 k1, .int .i64 k2] _ _ rfl
  have HG0 : Hid (Grew w (w.alloc (.cells #[.int .i64 k1, .int .i64 k2] 24))) := grew_alloc _ _ _
  go_enter Try.func16, Try.ntmps16
  go_upto_region 1 with (fail)
  generalize w.alloc (.cells #[.int .i64 k1, .int .i64 k2] 24) = w0 at *
  generalize hN0 : w.heap.size = N0 at *
  have HN0 := Lib.hid hN0
  clear hN0
  have HI0 := Lib.hid (HI.out.keep HG0.out)
  go_wp2
  go_loop [8] (fun v8 => ∃ j : Nat, v8 = .int .i64 j ∧ j ≤ n ∧ Hid (∀ i, i < j → okFi (fs.getD i fi0) = true)) (fun v8 => n - (intOf v8).toNat)
  case atStart => exact ⟨0, rfl, by omega, (by intro i hi; omega)⟩
  case round =>
    obtain ⟨j, rfl, hj, HA⟩ := hrel
    by_cases hlt : j < n
    · obtain ⟨b, o, rfl, hb, hc⟩ := HI0.out.rD3 hlt
      obtain ⟨a0, a1, a2⟩ := hc j hlt
      have HV : Hid (okFi (fs.getD j fi0) = (wi (fs.getD j fi0).2.1 0 1099511627776 && wi (fs.getD j fi0).2.2 0 1073741824)) := rfl
      have HB3 : Hid (okFi (fs.getD j fi0) = false → legsE fs = 3) := fun h => HE3.out j (by rw [HL.out]; exact hlt) h
      have HA1 : Hid (okFi (fs.getD j fi0) = true → ∀ i, i < j + 1 → okFi (fs.getD i fi0) = true) := fun h i hi => by
        rcases Nat.lt_or_ge i j with h1 | h1
        · exact HA.out i h1
        · obtain rfl : i = j := by omega
          exact h
      have i0 : (0 : Int) ≤ (j : Int) := by omega
      have i1 : (j : Int) < (n : Int) := by omega
      clear hc hb
      generalize okFi (fs.getD j fi0) = V at *
      generalize fs.getD j fi0 = x at *
      obtain ⟨q1, q2, q3⟩ := x
      dsimp only at a0 a1 a2 HV
      have C1 := fun w => rauwithin_any q2 0 1099511627776 w
      have C2 := fun w => rauwithin_any q3 0 1073741824 w
      generalize wi q2 0 1099511627776 = R1 at *
      generalize wi q3 0 1073741824 = R2 at *
      have H : (R1 = false) ∨ (R1 = true ∧ R2 = false) ∨ (R1 = true ∧ R2 = true) := by cases R1 <;> cases R2 <;> simp
      rcases H with rfl | ⟨rfl, rfl⟩ | ⟨rfl, rfl⟩
      · have HF := Lib.hid (HB3.out (by rw [HV.out]; rfl))
        clear HB3 HA1 HV HA
        go_wp2_with (go_at_call 31; ((with_reducible refine (C1 _).mono ?_); rintro e w9 ⟨rfl, rfl⟩))
        exact HNO.out 3 _ HF.out (by decide) HG0.out
      · have HF := Lib.hid (HB3.out (by rw [HV.out]; rfl))
        clear HB3 HA1 HV HA
        go_wp2_with (first
          | (go_at_call 31; ((with_reducible refine (C1 _).mono ?_); rintro e w9 ⟨rfl, rfl⟩))
          | (go_at_call 31; ((with_reducible refine (C2 _).mono ?_); rintro e w9 ⟨rfl, rfl⟩)))
        exact HNO.out 3 _ HF.out (by decide) HG0.out
      · have HF := Lib.hid (HA1.out (by rw [HV.out]; rfl))
        clear HB3 HA1 HV HA
        go_wp2_with (first
          | (go_at_call 31; ((with_reducible refine (C1 _).mono ?_); rintro e w9 ⟨rfl, rfl⟩))
          | (go_at_call 31; ((with_reducible refine (C2 _).mono ?_); rintro e w9 ⟨rfl, rfl⟩)))
        go_round
        case rel => exact ⟨j + 1, by go_num, by omega, HF.out⟩
        case measure => simp only [intOf]; omega
    · obtain rfl : j = n := by omega
      have HALL := Lib.hid HA.out
      clear HA hlt
      go_wp2
      go_loopw [9, 10, 11, 12, 13] (fun v9 v10 v11 v12 v13 wr => ∃ i : Nat, v10 = .int .i64 i ∧ i ≤ j ∧ Hid (∀ p, p < i → okMu (fs.getD p fi0) = true) ∧ Hid (OwnE enPo wr w0.heap.size 49 v9 (legsF (k1, k2) (sg long) (fs.take i))) ∧ Hid (Grew w0 wr)) (fun _ v10 _ _ _ _ => j - (intOf v10).toNat)
      case atStart => exact ⟨0, rfl, by omega, (by intro i hi; omega), OwnE.nil _ _ _ _, grew_refl _⟩
      case round =>
        obtain ⟨i, rfl, hi, HM, HT, HG⟩ := hrel
        by_cases hlt : i < j
        · obtain ⟨b, o, rfl, hb, hc⟩ := (HI0.out.keep HG.out).rD3 hlt
          obtain ⟨a0, a1, a2⟩ := hc i hlt
          have HO1 := HALL.out i hlt
          have HV := Lib.hid (rmul_of HO1)
          have HB1 : Hid (okMu (fs.getD i fi0) = false → legsE fs = 1) := fun h => HE1.out i (by rw [HL.out]; exact hlt) (by rw [HL.out]; exact HALL.out) h
          have HM1 : Hid (okMu (fs.getD i fi0) = true → ∀ p, p < i + 1 → okMu (fs.getD p fi0) = true) := fun h p hp => by
            rcases Nat.lt_or_ge p i with h1 | h1
            · exact HM.out p h1
            · obtain rfl : p = i := by omega
              exact h
          have HLE : Hid (legsF (k1, k2) (sg long) (fs.take (i + 1)) = legsF (k1, k2) (sg long) (fs.take i) ++ [((fs.getD i fi0).1, k2, sg long * (fs.getD i fi0).2.1, sg long * ((fs.getD i fi0).2.1 * (fs.getD i fi0).2.2)), (k1, k2, -(sg long * (fs.getD i fi0).2.1), -(sg long * ((fs.getD i fi0).2.1 * (fs.getD i fi0).2.2)))]) := legsF_take (k1, k2) (sg long) fs i (by rw [HL.out]; exact hlt)
          have HLL : Hid ((legsF (k1, k2) (sg long) (fs.take i)).length ≤ 200000) := by show _ ≤ _; rw [legsF_len, List.length_take]; omega
          have HBD : Hid (okMu (fs.getD i fi0) = true → -4611686018427387904 ≤ (fs.getD i fi0).2.1 * (fs.getD i fi0).2.2 ∧ (fs.getD i fi0).2.1 * (fs.getD i fi0).2.2 ≤ 4611686018427387904) := fun h => (isMoney_iff _).1 h
          have HMU : Hid (isMoney ((fs.getD i fi0).2.1 * (fs.getD i fi0).2.2) = okMu (fs.getD i fi0)) := rfl
          have hqq := ((okFi_iff _).1 HO1).1
          have i0 : (0 : Int) ≤ (i : Int) := by omega
          have i1 : (i : Int) < (j : Int) := by omega
          obtain ⟨x, hxv⟩ : ∃ x, x = fs.getD i fi0 := ⟨_, rfl⟩
          have HXV : Hid (fs.getD i fi0 = x) := hxv.symm
          rw [← hxv] at a0 a1 a2 HV HB1 HM1 HLE HBD HMU hqq
          clear hc hb HO1 hxv
          obtain ⟨q1, q2, q3⟩ := x
          dsimp only at a0 a1 a2 HV HLE HBD hqq HMU
          obtain ⟨hq0, hq9⟩ := hqq
          have CT := fun w => mul_any q2 q3 w HV.out.1 HV.out.2.1
          rw [HMU.out] at CT
          generalize okMu (q1, q2, q3) = V at *
          generalize hp : q2 * q3 = p at *
          clear hp
          have HSB : Hid (∀ w', Grew w0 w' → w'.cell? ⟨b, o + i * 3, none⟩ = some (.int .i64 q1) ∧ w'.cell? ⟨N0, 0, none⟩ = some (.int .i64 k1) ∧ w'.cell? ⟨N0, 1, none⟩ = some (.int .i64 k2)) := fun w' g => by
            obtain ⟨b2, o2, e, hb2, hc2⟩ := (HI0.out.keep g).rD3 hlt
            cases e
            have h5 := hc2 i hlt
            rw [HXV.out] at h5
            exact ⟨h5.1, (HX0.out.keep g).at 0 _ rfl, (HX0.out.keep g).at 1 _ rfl⟩
          clear HMU HM
          go_upto_region 12 with (go_at_call 33; ((with_reducible refine (CT _).mono ?_); rintro e w5 ⟨rfl, hg⟩; have HG5 : Hid (Grew w0 w5) := grew_trans HG.out hg; have HT5 := Lib.hid (HT.out.keep hg); clear hg a0 a1 a2))
          clear HG HT
          cases V
          · have HF := Lib.hid (HB1.out rfl)
            clear HB1 HM1 HLE HBD HV
            go_wp2
            exact HNO.out 1 _ HF.out (by decide) (grew_trans HG0.out HG5.out)
          · have HM2 := Lib.hid (HM1.out rfl)
            have mv1 := HV.out.2.2 rfl
            rw [mv1]
            obtain ⟨hp1, hp2⟩ := HBD.out rfl
            clear HB1 HM1 HBD HV mv1
            have e1 : IntKind.i64.wrap (-q2) = -q2 := by rw [IntKind.wrap_i64]; omega
            have e2 : IntKind.i64.wrap (-p) = -p := by rw [IntKind.wrap_i64]; omega
            have e3 : IntKind.i64.wrap q2 = q2 := by rw [IntKind.wrap_i64]; omega
            have e4 : IntKind.i64.wrap p = p := by rw [IntKind.wrap_i64]; omega
            have e5 : IntKind.i64.wrap (- -q2) = q2 := by rw [IntKind.wrap_i64]; omega
            have e6 : IntKind.i64.wrap (- -p) = p := by rw [IntKind.wrap_i64]; omega
            cases long
            · have HLF : Hid (legsF (k1, k2) (sg false) (fs.take (i + 1)) = legsF (k1, k2) (sg false) (fs.take i) ++ [(q1, k2, -q2, -p), (k1, k2, q2, p)]) := by
                have e : sg false = -1 := rfl
                show _ = _
                rw [HLE.out, e, show (-1 : Int) * q2 = -q2 by omega, show (-1 : Int) * p = -p by omega, Int.neg_neg, Int.neg_neg]
              clear HLE
              go_upto_region 16 with (fail)
              go_region_held3 (fun w' => w'.cell? ⟨b, o + i * 3, none⟩ = some (.int .i64 q1) ∧ w'.cell? ⟨N0, 0, none⟩ = some (.int .i64 k1) ∧ w'.cell? ⟨N0, 1, none⟩ = some (.int .i64 k2))
                (first
                  | (with_reducible exact HSB.out _ (grew_trans HG5.out (grew_drew (grew_refl _))))
                  | (with_reducible exact HSB.out _ (grew_trans HG5.out (grew_trans (grew_drew (grew_refl _)) (grew_alloc _ _ _))))
                  | (with_reducible exact HSB.out _ (grew_trans HG5.out (grew_drew (grew_alloc _ _ _))))
                  | (exact HSB.out _ HG9.out))
                (first
                  | (refine step_append_G (E := enPo) rfl _ _ 37 49 (vPo po0) 32 rfl Try.underlying37 info_po rfl w0.heap.size _ _ rfl (HT5.out.keep (grew_trans (grew_drew (grew_refl _)) (grew_alloc _ _ _))) _ 2 2 [(q1, k2, -q2, -p), (k1, k2, q2, p)] rfl (rowE_lits enPo [(q1, k2, -q2, -p), (k1, k2, q2, p)] _ 49 _ rfl _ 2 rfl rfl) (by have := HLL.out; unfold maxLen; omega) (by have := HLL.out; omega) (Nat.le_trans HG5.out.size (grew_trans (grew_drew (grew_refl _)) (grew_alloc _ _ _)).size) ?_; intro v9 w9 hv hb hgb; have HV9 := Lib.hid hv; have HG9 : Hid (Grew w0 w9) := Below.trans (grew_trans HG5.out (grew_trans (grew_drew (grew_refl _)) (grew_alloc _ _ _))) hb; clear hv hb hgb))
              all_goals
                (go_wp2
                 go_roundw
                 case rel => exact ⟨i + 1, by go_num, by omega, HM2.out, by rw [HLF.out]; exact HV9.out, HG9.out⟩
                 case measure => simp only [intOf]; omega)
            · have HLF : Hid (legsF (k1, k2) (sg true) (fs.take (i + 1)) = legsF (k1, k2) (sg true) (fs.take i) ++ [(q1, k2, q2, p), (k1, k2, -q2, -p)]) := by
                have e : sg true = 1 := rfl
                show _ = _
                rw [HLE.out, e, Int.one_mul, Int.one_mul]
              clear HLE
              go_upto_region 16 with (fail)
              go_region_held3 (fun w' => w'.cell? ⟨b, o + i * 3, none⟩ = some (.int .i64 q1) ∧ w'.cell? ⟨N0, 0, none⟩ = some (.int .i64 k1) ∧ w'.cell? ⟨N0, 1, none⟩ = some (.int .i64 k2))
                (first
                  | (with_reducible exact HSB.out _ (grew_trans HG5.out (grew_drew (grew_refl _))))
                  | (with_reducible exact HSB.out _ (grew_trans HG5.out (grew_trans (grew_drew (grew_refl _)) (grew_alloc _ _ _))))
                  | (with_reducible exact HSB.out _ (grew_trans HG5.out (grew_drew (grew_alloc _ _ _))))
                  | (exact HSB.out _ HG9.out))
                (first
                  | (refine step_append_G (E := enPo) rfl _ _ 37 49 (vPo po0) 32 rfl Try.underlying37 info_po rfl w0.heap.size _ _ rfl (HT5.out.keep (grew_trans (grew_drew (grew_refl _)) (grew_alloc _ _ _))) _ 2 2 [(q1, k2, q2, p), (k1, k2, -q2, -p)] rfl (rowE_lits enPo [(q1, k2, q2, p), (k1, k2, -q2, -p)] _ 49 _ rfl _ 2 rfl rfl) (by have := HLL.out; unfold maxLen; omega) (by have := HLL.out; omega) (Nat.le_trans HG5.out.size (grew_trans (grew_drew (grew_refl _)) (grew_alloc _ _ _)).size) ?_; intro v9 w9 hv hb hgb; have HV9 := Lib.hid hv; have HG9 : Hid (Grew w0 w9) := Below.trans (grew_trans HG5.out (grew_trans (grew_drew (grew_refl _)) (grew_alloc _ _ _))) hb; clear hv hb hgb))
              all_goals
                (go_wp2
                 go_roundw
                 case rel => exact ⟨i + 1, by go_num, by omega, HM2.out, by rw [HLF.out]; exact HV9.out, HG9.out⟩
                 case measure => simp only [intOf]; omega)
        · obtain rfl : i = j := by omega
          have HF := Lib.hid (HE0.out (by rw [HL.out]; exact HALL.out) (by rw [HL.out]; exact HM.out))
          have HTE : Hid (fs.take i = fs) := List.take_of_length_le (by rw [HL.out]; exact Nat.le_refl _)
          rw [HTE.out] at HT
          go_wp2
          exact HYES.out _ _ HF.out (HT.out.mono (by have := grew_size HG0.out; have := HN0.out; omega)) (grew_trans HG0.out HG.out)
end Go.Proofs.Ytahioajpmlochaa.NumK
