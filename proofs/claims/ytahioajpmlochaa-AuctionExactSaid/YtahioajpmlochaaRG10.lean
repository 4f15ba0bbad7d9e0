/- The reference's Fill. -/
import Derived.Test.YtahioajpmlochaaRG3
import Derived.Test.YtahioajpmlochaaRG6
import Derived.Deep.RegionHeld3
import Derived.Test.YtahioajpmlochaaRG2
import Derived.Test.YtahioajpmlochaaRG7
namespace Go.Proofs.Ytahioajpmlochaa.NumK
open Go.RowKit
set_option linter.unusedVariables false

theorem all_at {l : List B5} {p : B5 → Bool} (h : ∀ i, i < l.length → p (l.getD i bi0) = true) : l.all p = true := by
  rw [List.all_eq_true]
  intro x hx
  obtain ⟨i, hi, rfl⟩ := List.getElem_of_mem hx
  have := h i hi
  rwa [getD_at l bi0 i hi] at this
theorem all_not {l : List B5} {p : B5 → Bool} {i : Nat} (hi : i < l.length) (h : p (l.getD i bi0) = false) : l.all p = false := by
  rw [← Bool.not_eq_true]
  intro hc
  have := List.all_eq_true.1 hc _ (getD_mem l bi0 i hi)
  rw [h] at this; cases this

set_option maxRecDepth 100000 in
set_option maxHeartbeats 8000000 in
theorem rafill_any (q : Int) (A : Option Addr) (n c : Nat) (l : List B5) (w : World) (h : RowE enB5 w A n l) (hn : n ≤ 100000) (hf : ∀ b ∈ l, in64 b.2.2.1) (hq : in64 q) :
    Calls Try.prog 13 #[.int .i64 q, .slice A n c] w (FillPost q l w) := by
  have HI := Lib.hid h
  have HL := Lib.hid h.len
  have CW := fun w => rauwithin_any q (-1099511627776) 1099511627776 w
  have CO := fun w1 (g : Grew w w1) => raorder_any (decide (q > 0)) A n c l w1 (h.keep g) hn hf
  have HOK : Hid (auOK q l = (wi q (-1099511627776) 1099511627776 && l.all okBi)) := rfl
  have HP : Hid (auOK q l = true → Pos1 (ordB (decide (q > 0)) l)) := fun h => ord_pos (auOK_pos h)
  have HQ : Hid (auOK q l = true → -1099511627776 ≤ q ∧ q ≤ 1099511627776) := fun h => ((auOK_iff q l).1 h).1
  have HOL : Hid ((ordB (decide (q > 0)) l).length = n) := by show _ = _; rw [← h.len]; exact ordF_len _ _
  have HF : Hid (auF q l = fillF (max q (-q)) (ordB (decide (q > 0)) l)) := rfl
  have HR : Hid (auR q l = restF (max q (-q)) (ordB (decide (q > 0)) l)) := rfl
  have HPost : Hid (FillPost q l w = fun e w' => (auOK q l = false ∧ e = .returned (.tuple #[.slice none 0 0, .int .i64 0, .int .i64 3]) ∧ Grew w w') ∨
    (auOK q l = true ∧ ∃ v, e = .returned (.tuple #[v, .int .i64 (auR q l), .int .i64 0]) ∧ OwnE enD3 w' w.heap.size 46 v (auF q l) ∧ Grew w w')) := rfl
  generalize FillPost q l w = Q at *
  clear h hf
  cases h1 : wi q (-1099511627776) 1099511627776
  · rw [h1] at CW
    have HO : Hid (auOK q l = false) := by show _ = _; rw [HOK.out, h1]; rfl
    clear CO h1
    go_enter Try.func13, Try.ntmps13
    go_wp2_with (go_at_call 31; ((with_reducible refine (CW _).mono ?_); rintro e w1 ⟨rfl, rfl⟩))
    go_ret3
    rw [HPost.out]
    exact Or.inl ⟨HO.out, rfl, grew_refl _⟩
  · have HQ2 := Lib.hid ((wi_iff _ _ _).1 h1)
    have HOK2 : Hid (auOK q l = l.all okBi) := by show _ = _; rw [HOK.out, h1]; rfl
    rw [h1] at CW
    clear HOK h1
    go_enter Try.func13, Try.ntmps13
    go_wp2_with (go_at_call 31; ((with_reducible refine (CW _).mono ?_); rintro e w1 ⟨rfl, rfl⟩))
    clear CW
    go_loop [7] (fun v7 => ∃ j : Nat, v7 = .int .i64 j ∧ j ≤ n ∧ Hid (∀ i, i < j → okBi (l.getD i bi0) = true)) (fun v7 => n - (intOf v7).toNat)
    case atStart => exact ⟨0, rfl, by omega, (by intro i hi; omega)⟩
    case round =>
      obtain ⟨j, rfl, hj, HA⟩ := hrel
      by_cases hlt : j < n
      · obtain ⟨b, o, rfl, hb, hc⟩ := HI.out.rB5 hlt
        obtain ⟨a0, a1, a2, a3, a4⟩ := hc j hlt
        have HV : Hid (okBi (l.getD j bi0) = (wi (l.getD j bi0).2.2.2.1 1 1048576 && wi (l.getD j bi0).2.2.2.2 1 1073741824)) := rfl
        have HB3 : Hid (okBi (l.getD j bi0) = false → auOK q l = false) := fun h => by rw [HOK2.out]; exact all_not (by rw [HL.out]; exact hlt) h
        have HA1 : Hid (okBi (l.getD j bi0) = true → ∀ i, i < j + 1 → okBi (l.getD i bi0) = true) := fun h i hi => by
          rcases Nat.lt_or_ge i j with h1 | h1
          · exact HA.out i h1
          · obtain rfl : i = j := by omega
            exact h
        have i0 : (0 : Int) ≤ (j : Int) := by omega
        have i1 : (j : Int) < (n : Int) := by omega
        clear hc hb
        generalize okBi (l.getD j bi0) = V at *
        generalize l.getD j bi0 = x at *
        obtain ⟨q1, q2, q3, q4, q5⟩ := x
        dsimp only at a0 a1 a2 a3 a4 HV
        have C1 := fun w => rauwithin_any q4 1 1048576 w
        have C2 := fun w => rauwithin_any q5 1 1073741824 w
        generalize wi q4 1 1048576 = R1 at *
        generalize wi q5 1 1073741824 = R2 at *
        have H : (R1 = false) ∨ (R1 = true ∧ R2 = false) ∨ (R1 = true ∧ R2 = true) := by cases R1 <;> cases R2 <;> simp
        rcases H with rfl | ⟨rfl, rfl⟩ | ⟨rfl, rfl⟩
        · have HF := Lib.hid (HB3.out (by rw [HV.out]; rfl))
          clear HB3 HA1 HV HA
          go_wp2_with (go_at_call 31; ((with_reducible refine (C1 _).mono ?_); rintro e w9 ⟨rfl, rfl⟩))
          go_ret3
          rw [HPost.out]
          exact Or.inl ⟨HF.out, rfl, grew_refl _⟩
        · have HF := Lib.hid (HB3.out (by rw [HV.out]; rfl))
          clear HB3 HA1 HV HA
          go_wp2_with (first
            | (go_at_call 31; ((with_reducible refine (C1 _).mono ?_); rintro e w9 ⟨rfl, rfl⟩))
            | (go_at_call 31; ((with_reducible refine (C2 _).mono ?_); rintro e w9 ⟨rfl, rfl⟩)))
          go_ret3
          rw [HPost.out]
          exact Or.inl ⟨HF.out, rfl, grew_refl _⟩
        · have HF := Lib.hid (HA1.out (by rw [HV.out]; rfl))
          clear HB3 HA1 HV HA
          go_wp2_with (first
            | (go_at_call 31; ((with_reducible refine (C1 _).mono ?_); rintro e w9 ⟨rfl, rfl⟩))
            | (go_at_call 31; ((with_reducible refine (C2 _).mono ?_); rintro e w9 ⟨rfl, rfl⟩)))
          go_round
          case rel => exact ⟨j + 1, by go_num, by omega, HF.out⟩
          case measure => simp only [intOf]; omega
      · obtain rfl : j = n := by omega
        have HO : Hid (auOK q l = true) := by show _ = _; rw [HOK2.out]; exact all_at (by rw [HL.out]; exact HA.out)
        have HPO := Lib.hid (HP.out HO.out)
        have CO1 := CO w (grew_refl _)
        have e1 : IntKind.i64.wrap (-q) = -q := by have := HQ2.out; rw [IntKind.wrap_i64]; omega
        have hR0 : 0 ≤ max q (-q) ∧ max q (-q) ≤ 1099511627776 := by have := HQ2.out; omega
        clear HOK2 HP HQ HA CO HI hlt HL HQ2
        go_upto_region 8 with (fail)
        go_cut [8] (fun s8 wx => s8 = .int .i64 (max q (-q)) ∧ w = wx)
        case first =>
          by_cases hm : q < -q
          · have hm2 : max q (-q) = -q := by omega
            have HM := Lib.hid hm2
            have hm3 : q ≤ -q := by omega
            go_wp2_with (fail)
            go_meet
            case rel => exact ⟨by rw [HM.out], rfl⟩
          · have hm2 : max q (-q) = q := by omega
            have HM := Lib.hid hm2
            by_cases hm4 : q = 0
            · subst hm4
              go_wp2_with (fail)
              go_meet
              case rel => exact ⟨by rw [HM.out], rfl⟩
            · have hm3 : ¬ q ≤ -q := by omega
              go_wp2_with (fail)
              go_meet
              case rel => exact ⟨by rw [HM.out], rfl⟩
        case rest =>
          obtain ⟨rfl, rfl⟩ := hcut
          generalize max q (-q) = R at *
          obtain ⟨hR1, hR2⟩ := hR0
          have HO3 : Hid True := trivial
          go_upto_region 10 with (go_at_call 11; ((with_reducible refine CO1.mono ?_); rintro e w3 ⟨v, rfl, ho, hg⟩; have HOW := Lib.hid ho; have HG3 := Lib.hid hg; clear ho hg CO1))
          generalize ordB (decide (q > 0)) l = o at *
          obtain ⟨A3, c3, rfl, hr3, _, _, _⟩ := HOW.out.form
          rw [HOL.out] at hr3 ⊢
          have HR3 := Lib.hid hr3
          clear HOW hr3
          go_wp2
          go_loopw [8, 10, 11, 12] (fun v8 v10 v11 v12 wr => ∃ (i : Nat) (left : Int) (acc : List Fi), v11 = .int .i64 i ∧ v8 = .int .i64 left ∧ i ≤ j ∧ Hid (FillAt o R i acc left) ∧ Hid (OwnE enD3 wr w3.heap.size 46 v10 acc) ∧ Hid (Grew w3 wr)) (fun _ _ v11 _ _ => j - (intOf v11).toNat)
          case atStart => exact ⟨0, R, [], rfl, rfl, by omega, FillAt.start o hR1, OwnE.nil _ _ _ _, grew_refl _⟩
          case round =>
            obtain ⟨i, left, acc, rfl, rfl, hi, HA, HT, HG⟩ := hrel
            have hl0 : 0 ≤ left := HA.out.2.2.1
            have hl1 : left ≤ 1099511627776 := by have := HA.out.2.2.2.1; omega
            by_cases hlt : i < j
            · by_cases hz : left = 0
              · obtain ⟨hl, hr⟩ := HA.out.stop hz (by rw [HOL.out]; exact hi)
                have HFi : Hid (acc = auF q l) := by show _ = _; rw [HF.out]; exact hl
                have HRi : Hid (left = auR q l) := by show _ = _; rw [HR.out]; exact hr
                subst hz
                clear hl hr HA
                go_wp2
                go_ret3
                rw [HPost.out]
                refine Or.inr ⟨HO.out, u10, by rw [← HRi.out]; rfl, ?_, grew_trans HG3.out HG.out⟩
                rw [← HFi.out]; exact HT.out.mono (grew_size HG3.out)
              · obtain ⟨b, ob, rfl, hb, hc⟩ := (HR3.out.keep HG.out).rB5 hlt
                obtain ⟨a0, a1, a2, a3, a4⟩ := hc i hlt
                have HQ1 : Hid (1 ≤ (o.getD i bi0).2.2.2.1) := HPO.out _ (getD_mem o bi0 i (by rw [HOL.out]; exact hlt))
                have HTK := Lib.hid (HA.out.take (by rw [HOL.out]; exact hlt) HQ1.out (by omega))
                have HLL : Hid (acc.length ≤ i) := HA.out.2.2.2.2
                have i0 : (0 : Int) ≤ (i : Int) := by omega
                have i1 : (i : Int) < (j : Int) := by omega
                clear hc HA
                obtain ⟨x, hxv⟩ : ∃ x, x = o.getD i bi0 := ⟨_, rfl⟩
                have HXV : Hid (o.getD i bi0 = x) := hxv.symm
                rw [← hxv] at a0 a1 a2 a3 a4 HQ1 HTK
                clear hxv
                obtain ⟨q1, q2, q3, q4, q5⟩ := x
                dsimp only at a0 a1 a2 a3 a4 HQ1 HTK
                have hq1 := HQ1.out
                have HS16 : Hid (∀ w', Grew wr w' → w'.cell? ⟨b, ob + i * 5 + 2, none⟩ = some (.int .i64 q3) ∧ w'.cell? ⟨b, ob + i * 5 + 4, none⟩ = some (.int .i64 q5)) := fun w' g => ⟨(grew_cell g (p := ⟨b, _, none⟩) hb).trans a2, (grew_cell g (p := ⟨b, _, none⟩) hb).trans a4⟩
                have HSB : Hid (∀ w', Grew w3 w' → w'.cell? ⟨b, ob + i * 5 + 2, none⟩ = some (.int .i64 q3) ∧ w'.cell? ⟨b, ob + i * 5 + 4, none⟩ = some (.int .i64 q5)) := fun w' g => by
                  obtain ⟨b2, ob2, e, hb2, hc2⟩ := (HR3.out.keep g).rB5 hlt
                  cases e
                  have h5 := hc2 i hlt
                  rw [HXV.out] at h5
                  exact ⟨h5.2.2.1, h5.2.2.2.2⟩
                clear HQ1 a0 a1 a2 a4 hb
                rcases Int.lt_trichotomy q4 left with hc | hc | hc
                · have HA1 := Lib.hid HTK.out
                  rw [show min left q4 = q4 by omega] at HA1
                  have m1 : min left q4 = q4 := by omega
                  have m2 : ¬ left < q4 := by omega
                  have m5 : ¬ left ≤ q4 := by omega
                  have m3 : left > 0 := by omega
                  have m4 : IntKind.i64.wrap (left - q4) = left - q4 := by rw [IntKind.wrap_i64]; omega
                  clear HTK
                  go_upto_region 16 with (fail)
                  go_region_held3 (fun w' => w'.cell? ⟨b, ob + i * 5 + 2, none⟩ = some (.int .i64 q3) ∧ w'.cell? ⟨b, ob + i * 5 + 4, none⟩ = some (.int .i64 q5))
                    (first
                      | (with_reducible exact HS16.out _ (grew_drew (grew_refl _)))
                      | (with_reducible exact HS16.out _ (grew_trans (grew_drew (grew_refl _)) (grew_alloc _ _ _)))
                      | (with_reducible exact HS16.out _ (grew_drew (grew_alloc _ _ _)))
                      | (exact HSB.out _ HG9.out))
                    (first
                      | (refine step_append_G (E := enD3) rfl _ _ 25 46 (vFi fi0) 24 rfl Try.underlying25 info_fi rfl w3.heap.size _ _ rfl (HT.out.keep (grew_trans (grew_drew (grew_refl _)) (grew_alloc _ _ _))) _ 1 1 [(q3, q4, q5)] rfl (RowE.one enD3 _ (q3, q4, q5) 46 _ rfl) (by have := HLL.out; unfold maxLen; omega) (by have := HLL.out; omega) (Nat.le_trans HG.out.size (grew_trans (grew_drew (grew_refl _)) (grew_alloc _ _ _)).size) ?_; intro v9 w9 hv hb hgb; have HV9 := Lib.hid hv; have HG9 : Hid (Grew w3 w9) := Below.trans (grew_trans HG.out (grew_trans (grew_drew (grew_refl _)) (grew_alloc _ _ _))) hb; clear hv hb hgb))
                  all_goals
                    (go_wp2
                     go_roundw
                     case rel => exact ⟨i + 1, left - q4, _, by go_num, (by first | rfl | (congr 1; omega)), by omega, HA1.out, HV9.out, HG9.out⟩
                     case measure => simp only [intOf]; omega)
                · subst hc
                  have HA1 := Lib.hid HTK.out
                  rw [show min q4 q4 = q4 by omega] at HA1
                  have m1 : min q4 q4 = q4 := by omega
                  have m3 : q4 > 0 := by omega
                  have m4 : IntKind.i64.wrap (q4 - q4) = q4 - q4 := by rw [IntKind.wrap_i64]; omega
                  clear HTK
                  go_upto_region 16 with (fail)
                  go_region_held3 (fun w' => w'.cell? ⟨b, ob + i * 5 + 2, none⟩ = some (.int .i64 q3) ∧ w'.cell? ⟨b, ob + i * 5 + 4, none⟩ = some (.int .i64 q5))
                    (first
                      | (with_reducible exact HS16.out _ (grew_drew (grew_refl _)))
                      | (with_reducible exact HS16.out _ (grew_trans (grew_drew (grew_refl _)) (grew_alloc _ _ _)))
                      | (with_reducible exact HS16.out _ (grew_drew (grew_alloc _ _ _)))
                      | (exact HSB.out _ HG9.out))
                    (first
                      | (refine step_append_G (E := enD3) rfl _ _ 25 46 (vFi fi0) 24 rfl Try.underlying25 info_fi rfl w3.heap.size _ _ rfl (HT.out.keep (grew_trans (grew_drew (grew_refl _)) (grew_alloc _ _ _))) _ 1 1 [(q3, q4, q5)] rfl (RowE.one enD3 _ (q3, q4, q5) 46 _ rfl) (by have := HLL.out; unfold maxLen; omega) (by have := HLL.out; omega) (Nat.le_trans HG.out.size (grew_trans (grew_drew (grew_refl _)) (grew_alloc _ _ _)).size) ?_; intro v9 w9 hv hb hgb; have HV9 := Lib.hid hv; have HG9 : Hid (Grew w3 w9) := Below.trans (grew_trans HG.out (grew_trans (grew_drew (grew_refl _)) (grew_alloc _ _ _))) hb; clear hv hb hgb))
                  all_goals
                    (go_wp2
                     go_roundw
                     case rel => exact ⟨i + 1, q4 - q4, _, by go_num, (by first | rfl | (congr 1; omega)), by omega, HA1.out, HV9.out, HG9.out⟩
                     case measure => simp only [intOf]; omega)
                · have HA1 := Lib.hid HTK.out
                  rw [show min left q4 = left by omega] at HA1
                  have m1 : min left q4 = left := by omega
                  have m2 : left ≤ q4 := by omega
                  have m3 : left > 0 := by omega
                  have m4 : IntKind.i64.wrap (left - left) = left - left := by rw [IntKind.wrap_i64]; omega
                  clear HTK
                  go_upto_region 16 with (fail)
                  go_region_held3 (fun w' => w'.cell? ⟨b, ob + i * 5 + 2, none⟩ = some (.int .i64 q3) ∧ w'.cell? ⟨b, ob + i * 5 + 4, none⟩ = some (.int .i64 q5))
                    (first
                      | (with_reducible exact HS16.out _ (grew_drew (grew_refl _)))
                      | (with_reducible exact HS16.out _ (grew_trans (grew_drew (grew_refl _)) (grew_alloc _ _ _)))
                      | (with_reducible exact HS16.out _ (grew_drew (grew_alloc _ _ _)))
                      | (exact HSB.out _ HG9.out))
                    (first
                      | (refine step_append_G (E := enD3) rfl _ _ 25 46 (vFi fi0) 24 rfl Try.underlying25 info_fi rfl w3.heap.size _ _ rfl (HT.out.keep (grew_trans (grew_drew (grew_refl _)) (grew_alloc _ _ _))) _ 1 1 [(q3, left, q5)] rfl (RowE.one enD3 _ (q3, left, q5) 46 _ rfl) (by have := HLL.out; unfold maxLen; omega) (by have := HLL.out; omega) (Nat.le_trans HG.out.size (grew_trans (grew_drew (grew_refl _)) (grew_alloc _ _ _)).size) ?_; intro v9 w9 hv hb hgb; have HV9 := Lib.hid hv; have HG9 : Hid (Grew w3 w9) := Below.trans (grew_trans HG.out (grew_trans (grew_drew (grew_refl _)) (grew_alloc _ _ _))) hb; clear hv hb hgb))
                  all_goals
                    (go_wp2
                     go_roundw
                     case rel => exact ⟨i + 1, left - left, _, by go_num, (by first | rfl | (congr 1; omega)), by omega, HA1.out, HV9.out, HG9.out⟩
                     case measure => simp only [intOf]; omega)
            · obtain rfl : i = j := by omega
              obtain ⟨hl, hr⟩ := (show FillAt o R o.length acc left from HOL.out ▸ HA.out).last
              have HFi : Hid (acc = auF q l) := by show _ = _; rw [HF.out]; exact hl
              have HRi : Hid (left = auR q l) := by show _ = _; rw [HR.out]; exact hr
              clear hl hr HA
              go_wp2
              go_ret3
              rw [HPost.out]
              refine Or.inr ⟨HO.out, u10, by rw [← HRi.out]; rfl, ?_, grew_trans HG3.out HG.out⟩
              rw [← HFi.out]; exact HT.out.mono (grew_size HG3.out)
end Go.Proofs.Ytahioajpmlochaa.NumK
namespace Go.Proofs.Ytahioajpmlochaa.NumK
open Go.RowKit
set_option linter.unusedVariables false

def enPo : En Po := ⟨4, fun x => [.int .i64 x.1, .int .i64 x.2.1, .int .i64 x.2.2.1, .int .i64 x.2.2.2], fun _ => rfl, fun a v hv => by
  simp at hv; rcases hv with rfl | rfl | rfl | rfl <;> rfl, by decide⟩
def enTr : En Tr := ⟨7, fun t => [.int .i64 t.1.1, .int .i64 t.1.2.1, .int .i64 t.1.2.2.1, .int .i64 t.1.2.2.2.1, .int .i64 t.1.2.2.2.2.1, .int .i64 t.1.2.2.2.2.2, .bool t.2], fun _ => rfl, fun a v hv => by
  simp at hv; rcases hv with rfl | rfl | rfl | rfl | rfl | rfl | rfl <;> rfl, by decide⟩
abbrev vPo (x : Po) : Value := .agg #[.int .i64 x.1, .int .i64 x.2.1, .int .i64 x.2.2.1, .int .i64 x.2.2.2]
abbrev vTr (t : Tr) : Value := .agg #[.int .i64 t.1.1, .int .i64 t.1.2.1, .int .i64 t.1.2.2.1, .int .i64 t.1.2.2.2.1, .int .i64 t.1.2.2.2.2.1, .int .i64 t.1.2.2.2.2.2, .bool t.2]
theorem info_po : (Try.prog.info? 49).map (fun i => (i.zero, i.size, i.bytes)) = some (some (vPo po0), 4, 32) := by kernel_rfl

def CPo (w : World) (b p : Nat) (x : Po) : Prop :=
  w.cell? ⟨b, p, none⟩ = some (.int .i64 x.1) ∧ w.cell? ⟨b, p + 1, none⟩ = some (.int .i64 x.2.1) ∧ w.cell? ⟨b, p + 2, none⟩ = some (.int .i64 x.2.2.1) ∧ w.cell? ⟨b, p + 3, none⟩ = some (.int .i64 x.2.2.2)
theorem CPo.keep {w w' : World} {b p : Nat} {x : Po} (h : CPo w b p x) (g : Grew w w') (hb : b < w.heap.size) : CPo w' b p x :=
  ⟨(grew_cell g (p := ⟨b, _, none⟩) hb).trans h.1, (grew_cell g (p := ⟨b, _, none⟩) hb).trans h.2.1, (grew_cell g (p := ⟨b, _, none⟩) hb).trans h.2.2.1, (grew_cell g (p := ⟨b, _, none⟩) hb).trans h.2.2.2⟩
theorem RowE.po {w : World} {n : Nat} {l : List Po} {A : Option Addr} (h : RowE enPo w A n l) {j : Nat} (hj : j < n) : ∃ b o, A = some ⟨b, o, none⟩ ∧ b < w.heap.size ∧ ∀ j, j < n → CPo w b (o + j * 4) (l.getD j po0) := by
  have hl := h.len
  obtain ⟨b, o, e, hb, hc⟩ := h.at (by omega)
  refine ⟨b, o, e, hb, fun j hj => ?_⟩
  have hj' : j < l.length := by omega
  rw [getD_at l po0 j hj']
  exact ⟨hc j hj' 0 (by decide), hc j hj' 1 (by decide), hc j hj' 2 (by decide), hc j hj' 3 (by decide)⟩
def CTr (w : World) (b p : Nat) (t : Tr) : Prop :=
  w.cell? ⟨b, p, none⟩ = some (.int .i64 t.1.1) ∧ w.cell? ⟨b, p + 1, none⟩ = some (.int .i64 t.1.2.1) ∧ w.cell? ⟨b, p + 2, none⟩ = some (.int .i64 t.1.2.2.1) ∧ w.cell? ⟨b, p + 3, none⟩ = some (.int .i64 t.1.2.2.2.1)
  ∧ w.cell? ⟨b, p + 4, none⟩ = some (.int .i64 t.1.2.2.2.2.1) ∧ w.cell? ⟨b, p + 5, none⟩ = some (.int .i64 t.1.2.2.2.2.2) ∧ w.cell? ⟨b, p + 6, none⟩ = some (.bool t.2)
theorem CTr.keep {w w' : World} {b p : Nat} {t : Tr} (h : CTr w b p t) (g : Grew w w') (hb : b < w.heap.size) : CTr w' b p t := by
  obtain ⟨h0, h1, h2, h3, h4, h5, h6⟩ := h
  exact ⟨(grew_cell g (p := ⟨b, _, none⟩) hb).trans h0, (grew_cell g (p := ⟨b, _, none⟩) hb).trans h1, (grew_cell g (p := ⟨b, _, none⟩) hb).trans h2, (grew_cell g (p := ⟨b, _, none⟩) hb).trans h3,
    (grew_cell g (p := ⟨b, _, none⟩) hb).trans h4, (grew_cell g (p := ⟨b, _, none⟩) hb).trans h5, (grew_cell g (p := ⟨b, _, none⟩) hb).trans h6⟩
end Go.Proofs.Ytahioajpmlochaa.NumK
