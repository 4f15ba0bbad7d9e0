/- Contract of package share: Split. -/
import Derived.Test.YtahioajpmlochaaGreatRH16
import Derived.Test.YtahioajpmlochaaGreatRH17
import Derived.Test.YtahioajpmlochaaGreatRH7
import Derived.Deep.DeepCutAuto
import Derived.Deep.CutBlock
import Derived.Test.YtahioajpmlochaaGreatRH14
namespace Go.Proofs.YtahioajpmlochaaGreat.NumK
open Go.RowKit

theorem Pl.congr {f g : Nat → Int} {n : Nat} {s t : Nat → Nat} (h : Pl f n s t) (he : ∀ k, k < n → f k = g k) : Pl g n s t := by
  refine ⟨h.st, h.ts, h.out, fun i j a b => ?_⟩
  have := h.up i j a b
  have e1 := he (s i) (h.lt_s (by omega))
  have e2 := he (s j) (h.lt_s b)
  unfold Ah at *; omega

/-- Parts while the units left over are given. -/
def pk (T : Int) (l : List Int) (t : Nat → Nat) (c k : Nat) : Int := qs T l k + if t k < c then 1 else 0

def SplitOK (T : Int) (l : List Int) : Prop := chkE T l = 0 ∧ (l.sum = 0 → T = 0)
def SplitPost (T : Int) (l : List Int) (n : Nat) (w : World) (e : Ending) (w' : World) : Prop :=
  Grew w w' ∧ ((chkE T l ≠ 0 ∧ e = .returned (.tuple #[.slice none 0 0, .int .i64 (chkE T l)])) ∨
    (chkE T l = 0 ∧ l.sum = 0 ∧ T ≠ 0 ∧ e = .returned (.tuple #[.slice none 0 0, .int .i64 2])) ∨
    (SplitOK T l ∧ ∃ B s t, w.heap.size ≤ B ∧ Pl (rs T l) n s t ∧ e = .returned (.tuple #[.slice (some ⟨B, 0, none⟩) n n, .int .i64 0]) ∧ RowI w' B n (pt T l t)))

set_option maxRecDepth 100000 in
set_option maxHeartbeats 2000000 in
theorem split_any (T : Int) (A : Option Addr) (n c : Nat) (zs : List Int) (w : World) (hz : Ints w A n zs) (hn : n ≤ 9223372036854775807) :
    Calls Tryz.prog 18 #[.int .i64 T, .slice A n c] w (SplitPost T zs n w) := by
  have C := scheck_any T A n c zs w hz hn
  have HZ := Lib.hid hz
  clear hz
  generalize hE : chkE T zs = E at *
  by_cases h0 : E = 0
  · subst h0
    obtain ⟨t1, t2, t3, t4, t5⟩ := chk_ok hE
    have HE := Lib.hid hE
    have hl := HZ.out.1
    have hn2 : n ≤ 1024 := by omega
    have hsum := sum_nonneg t3
    have hsum2 := (sumTo_bd zs zs.length t3 t4 (by omega)).2
    have es : sumTo zs zs.length = zs.sum := by unfold sumTo; rw [List.take_length]
    rw [es] at hsum2
    have CS := fun w' (g : Grew w w') => shareSum_any A n c zs w' (HZ.out.keep g) t3 t4 hn2
    have CSH := Lib.hid CS
    clear CS
    have T3 := Lib.hid t3
    have T4 := Lib.hid t4
    have hmk := fun w => run_ints w n (by omega)
    have hmk2 := fun w => run_wides w n (by omega)
    have z1 : hi64 zs.sum = 0 ∧ lo64 zs.sum = 0 ↔ zs.sum = 0 := by
      have := w_eq zs.sum
      constructor
      · rintro ⟨a, b⟩; rw [a, b] at this; omega
      · intro h; rw [h]; decide
    have Z1 := Lib.hid z1
    clear hE t3 t4 t5 hl es z1
    have CP := fun (y : Int) (w : World) (h1 : 0 ≤ y) (h2 : y ≤ 4611686018427387904) (h3 : y ≤ zs.sum) (h4 : zs.sum = 0 → T = 0) => portion_any T y zs.sum w t1 t2 h1 h2 h3 hsum2 h4
    have CPH := Lib.hid CP
    clear CP
    generalize hA1 : hi64 zs.sum = sh at *
    generalize hA2 : lo64 zs.sum = sl at *
    have HA1 := Lib.hid hA1.symm
    have HA2 := Lib.hid hA2.symm
    clear hA1 hA2
    have OW : Hid (∀ w : World, Own2 (w.alloc (.cells #[.int .i64 sh, .int .u64 sl] 84)) w.heap.size (.int .i64 sh) (.int .u64 sl)) := fun w => Own2.new w _ _ _ _ rfl
    go_enter Tryz.func18, Tryz.ntmps18
    go_upto_region 5 with (first
          | (go_at_call 36; ((with_reducible refine C.mono ?_); rintro e w1 ⟨rfl, hg1⟩; have HG1 := Lib.hid hg1; clear hg1))
          | (go_at_call 37; ((with_reducible refine (CSH.out _ HG1.out).mono ?_); rintro e w2 ⟨rfl, hg2⟩; have HG2 := Lib.hid hg2; clear hg2)))
    go_cut [29] (fun s29 wx => s29 = .bool (decide (zs.sum = 0 ∧ T ≠ 0)) ∧ w2.alloc (.cells #[.int .i64 sh, .int .u64 sl] 84) = wx)
    case first =>
      by_cases c1 : zs.sum = 0
      · obtain ⟨rfl, rfl⟩ := Z1.out.2 c1
        have F : (T != 0) = decide (zs.sum = 0 ∧ T ≠ 0) := by
          by_cases c2 : T = 0
          · rw [decide_eq_false (by omega), c2]; rfl
          · rw [decide_eq_true ⟨c1, c2⟩]; simpa using c2
        have FH := Lib.hid F
        clear c1 F
        go_wp2_with fail
        go_meet
        case rel => exact ⟨by rw [FH.out], rfl⟩
      · have F : decide (zs.sum = 0 ∧ T ≠ 0) = false := decide_eq_false (by omega)
        have FH := Lib.hid F
        clear F
        have C1H := Lib.hid c1
        clear c1
        by_cases c2 : sh = 0
        · subst c2
          have c3 : (sl == 0) = false := by
            rw [beq_eq_false_iff_ne]; intro e; exact C1H.out (Z1.out.1 ⟨rfl, e⟩)
          go_wp2_with fail
          go_meet
          case rel => exact ⟨by rw [FH.out], rfl⟩
        · have c3 : (sh == 0) = false := by rw [beq_eq_false_iff_ne]; exact c2
          go_wp2_with fail
          go_meet
          case rel => exact ⟨by rw [FH.out], rfl⟩
    case rest =>
      obtain ⟨rfl, rfl⟩ := hcut
      clear C CSH
      by_cases hq : zs.sum = 0 ∧ T ≠ 0
      · have F : decide (zs.sum = 0 ∧ T ≠ 0) = true := decide_eq_true hq
        have HQ := Lib.hid hq
        rw [F]
        clear F hq
        go_wp2_with fail
        refine bodyPost_ret (v := .tuple #[.slice none 0 0, .int .i64 2]) (by simp [results, Tryz.results18, go_sem]) rfl ⟨grew_al (grew_trans HG1.out HG2.out) _, Or.inr (Or.inl ⟨HE.out, HQ.out.1, HQ.out.2, rfl⟩)⟩
      · have F : decide (zs.sum = 0 ∧ T ≠ 0) = false := decide_eq_false hq
        have hq2 : zs.sum = 0 → T = 0 := fun h => by
          rcases Int.lt_trichotomy T 0 with g | g | g
          · omega
          · exact g
          · exact absurd ⟨h, by omega⟩ hq
        have HQ := Lib.hid hq2
        have hw := (OW.out w2)
        have HO0 := Lib.hid hw
        have HG3 : Hid (Grew w (w2.alloc (.cells #[.int .i64 sh, .int .u64 sl] 84))) := grew_al (grew_trans HG1.out HG2.out) _
        have HN0 : Hid (w.heap.size ≤ w2.heap.size) := (grew_trans HG1.out HG2.out).size
        rw [F]
        clear F hq hq2 hw HG1 HG2
        generalize hw3 : w2.alloc (.cells #[.int .i64 sh, .int .u64 sl] 84) = w3 at *
        clear hw3
        generalize w2.heap.size = Wb at *
        go_wp2_with fail
        have HR : Hid (RowI ((w3.alloc (.cells (madeCells #[.int .i64 0] n) 3)).alloc (.cells (madeCells #[.int .i64 0, .int .u64 0] (n * 2)) 84)) w3.heap.size n (fun j => if j < 0 then qs T zs j else 0)) := ((RowI.made w3 3 n).keep (grew_al (grew_refl _) _)).congr (fun k _ => by rw [if_neg (by omega)])
        have HX : Hid (RowX ((w3.alloc (.cells (madeCells #[.int .i64 0] n) 3)).alloc (.cells (madeCells #[.int .i64 0, .int .u64 0] (n * 2)) 84)) (w3.heap.size + 1) n (fun j => if j < 0 then rs T zs j else 0)) := by
          have := RowX.made (w3.alloc (.cells (madeCells #[.int .i64 0] n) 3)) 84 n
          simp only [World.size_alloc] at this
          exact this.congr (fun k _ => by rw [if_neg (by omega)])
        have HO : Hid (Own2 ((w3.alloc (.cells (madeCells #[.int .i64 0] n) 3)).alloc (.cells (madeCells #[.int .i64 0, .int .u64 0] (n * 2)) 84)) Wb (.int .i64 sh) (.int .u64 sl)) := HO0.out.keep (grew_al (grew_al (grew_refl _) _) _)
        have HG : Hid (Grew w ((w3.alloc (.cells (madeCells #[.int .i64 0] n) 3)).alloc (.cells (madeCells #[.int .i64 0, .int .u64 0] (n * 2)) 84))) := grew_al (grew_al HG3.out _) _
        have HWP : Wb < w3.heap.size := HO0.out.lt
        have HNP : w.heap.size ≤ w3.heap.size := HG3.out.size
        generalize (w3.alloc (.cells (madeCells #[.int .i64 0] n) 3)).alloc (.cells (madeCells #[.int .i64 0, .int .u64 0] (n * 2)) 84) = w4 at HR HX HO HG ⊢
        generalize w3.heap.size = P at *
        clear hmk hmk2 HO0 HG3 OW HN0
        have hle := HZ.out.1
        have HLE := Lib.hid hle
        clear hle
        go_loopw [39, 10] (fun vi v10 wr => ∃ k : Nat, vi = .int .i64 k ∧ k ≤ n ∧ v10 = .int .i64 (T - sm (qs T zs) k) ∧ Hid (RowI wr P n (fun j => if j < k then qs T zs j else 0)) ∧ Hid (RowX wr (P + 1) n (fun j => if j < k then rs T zs j else 0)) ∧ Hid (Own2 wr Wb (.int .i64 sh) (.int .u64 sl)) ∧ Hid (Grew w wr)) (fun vi _ _ => n - (intOf vi).toNat)
        case atStart => exact ⟨0, rfl, Nat.zero_le _, by simp [sm], HR, HX, HO, HG⟩
        case round =>
          clear HR HX HO HG
          obtain ⟨k, rfl, hk, rfl, HR, HX, HO, HG⟩ := hrel
          by_cases hlt : k < n
          · obtain ⟨b, o, rfl, hb, hc⟩ := (HZ.out.keep HG.out).2 (by omega)
            have hcell : wr.cell? ⟨b, o + k, none⟩ = some (.int .i64 (wt zs k)) := hc k hlt
            have hm : zs.getD k 0 ∈ zs := by rw [List.getD_eq_getElem?_getD, List.getElem?_eq_getElem (by have := HLE.out; omega)]; exact List.getElem_mem _
            have y1 : 0 ≤ wt zs k := T3.out _ hm
            have y2 : wt zs k ≤ 4611686018427387904 := ((isMoney_iff _).1 ((List.all_eq_true.1 T4.out) _ hm)).2
            have CPk := fun w => CPH.out (wt zs k) w y1 y2 (wt_le_sum T3.out k) HQ.out
            have l0 := lf_mid t1 T3.out HQ.out k (by have := HLE.out; omega)
            have l1 := lf_mid t1 T3.out HQ.out (k + 1) (by have := HLE.out; omega)
            have HSM : Hid (sm (qs T zs) (k + 1) = sm (qs T zs) k + qs T zs k) := rfl
            have q0 := qs_nonneg t1 T3.out k
            have HQS : Hid (T * wt zs k / zs.sum = qs T zs k) := rfl
            have HRS : Hid (T * wt zs k % zs.sum = rs T zs k) := rfl
            rw [HQS.out, HRS.out] at CPk
            rw [HSM.out] at l1
            have HR2 : ∀ w' : World, Grew wr w' → Hid (RowI (w'.setCell ⟨P, k, none⟩ (.int .i64 (qs T zs k))) P n (fun j => if j < k + 1 then qs T zs j else 0)) := fun w' g => ((HR.out.keep g).set k (qs T zs k)).congr (fun j _ => by
              by_cases c1 : j = k
              · rw [if_pos c1, if_pos (by omega), c1]
              · rw [if_neg c1]
                by_cases c2 : j < k
                · rw [if_pos c2, if_pos (by omega)]
                · rw [if_neg c2, if_neg (by omega)])
            have HX2 : ∀ w' : World, RowX w' (P + 1) n (fun j => if j < k then rs T zs j else 0) → Hid (RowX ((w'.setCell ⟨P + 1, k * 2, none⟩ (.int .i64 (hi64 (rs T zs k)))).setCell ⟨P + 1, k * 2 + 1, none⟩ (.int .u64 (lo64 (rs T zs k)))) (P + 1) n (fun j => if j < k + 1 then rs T zs j else 0)) := fun w' h => (h.set k (rs T zs k)).congr (fun j _ => by
              by_cases c1 : j = k
              · rw [if_pos c1, if_pos (by omega), c1]
              · rw [if_neg c1]
                by_cases c2 : j < k
                · rw [if_pos c2, if_pos (by omega)]
                · rw [if_neg c2, if_neg (by omega)])
            have HR2H := Lib.hid HR2
            have HX2H := Lib.hid HX2
            have p1 := HO.out.c0
            have p2 := HO.out.c1
            clear HR2 HX2 hc hm
            generalize wt zs k = y at *
            generalize qs T zs k = q at *
            generalize hi64 (rs T zs k) = rh at *
            generalize lo64 (rs T zs k) = rl at *
            obtain ⟨l2, l3⟩ := l0
            obtain ⟨l4, l5⟩ := l1
            go_wp2_with (go_at_call 38; ((with_reducible refine (CPk _).mono ?_); rintro e w5 ⟨rfl, hg5⟩; have HG5 := Lib.hid hg5; clear hg5; have a1 := ((HR.out.keep HG5.out).2 k hlt).1; have a2 := ((HR.out.keep HG5.out).2 k hlt).2; obtain ⟨a3, a4, a5, a6⟩ := (HX.out.keep HG5.out).2 k hlt))
            go_roundw
            case rel =>
              refine ⟨k + 1, by go_num, by omega, ?_, ?_, ?_, ?_, ?_⟩
              · rw [HSM.out]; congr 1; omega
              · exact ((HR2H.out _ HG5.out).out.other _ _ (by simp)).other _ _ (by simp)
              · exact HX2H.out _ ((HX.out.keep HG5.out).other _ _ (by simp))
              · exact (((HO.out.keep HG5.out).other _ _ (by show P ≠ Wb; omega)).other _ _ (by show P + 1 ≠ Wb; omega)).other _ _ (by show P + 1 ≠ Wb; omega)
              · exact grew_set (grew_set (grew_set (grew_trans HG.out HG5.out) _ (by exact HNP)) _ (by show _ ≤ P + 1; omega)) _ (by show _ ≤ P + 1; omega)
            case measure => simp only [intOf]; omega
          · obtain rfl : k = n := by omega
            have hle := HLE.out
            have hlf : T - sm (qs T zs) k = lf T zs := by unfold lf; rw [hle]
            have hb := lf_bd T3.out HQ.out
            rw [hlf]
            have HRF : Hid (RowI wr P k (qs T zs)) := HR.out.congr (fun j hj => by rw [if_pos hj])
            have hW := (HX.out.congr (e := rs T zs) (fun j hj => by rw [if_pos hj])).wides
            have CG := greatestFirst_any (some ⟨P + 1, 0, none⟩) k k _ wr hW (fun a ha => by cases ha; exact HX.out.1) (by omega)
            have CGH := Lib.hid CG
            rw [hle] at hb
            obtain ⟨L, hL⟩ : ∃ L : Nat, lf T zs = (L : Int) := ⟨(lf T zs).toNat, by omega⟩
            have HL := Lib.hid hL
            have hLk : L ≤ k := by omega
            rw [hL]
            clear hle hlf hb hW CG hL HX HR
            go_wp2_with (go_at_call 39; ((with_reducible refine CGH.out.mono ?_); rintro e w5 ⟨B, s, t, rfl, hB, hRW, hPl, hG5⟩; have HBs := Lib.hid hB; have HRW := Lib.hid hRW; have HPl := Lib.hid hPl; have HG5 := Lib.hid hG5; clear hB hRW hPl hG5))
            have HPl2 : Hid (Pl (rs T zs) k s t) := HPl.out.congr (fun j hj => by simp [List.getD, hj])
            have HPB : P < B := Nat.lt_of_lt_of_le HRF.out.1 HBs.out
            have HR0 : Hid (RowI w5 P k (pk T zs t 0)) := (HRF.out.keep HG5.out).congr (fun j _ => by unfold pk; rw [if_neg (by omega)]; omega)
            have HG6 : Hid (Grew w w5) := grew_trans HG.out HG5.out
            clear HPl HRF HO HG HG5 CGH
            go_loopw [69, 14] (fun vi v14 wr => ∃ i : Nat, vi = .int .i64 i ∧ i ≤ L ∧ Hid (RowI wr P k (pk T zs t i)) ∧ Hid (RowW wr B k s) ∧ Hid (Grew w wr)) (fun vi _ _ => L - (intOf vi).toNat)
            case atStart => exact ⟨0, rfl, Nat.zero_le _, HR0, HRW, HG6⟩
            case round =>
              clear HR0 HRW HG6
              obtain ⟨i, rfl, hi, HR, HRW, HG⟩ := hrel
              by_cases hlt2 : i < L
              · have hs := HPl2.out.lt_s (k := i) (by omega)
                have hts := HPl2.out.ts i
                have q0 := qs_nonneg t1 T3.out (s i)
                have q1 := qs_le t1 T3.out (s i)
                have HK : Hid (pk T zs t i (s i) = qs T zs (s i)) := by show _ = _; unfold pk; rw [hts, if_neg (by omega)]; omega
                have HR2 : Hid (∀ v, v = qs T zs (s i) + 1 → RowI (wr.setCell ⟨P, s i, none⟩ (.int .i64 v)) P k (pk T zs t (i + 1))) := fun v hv => (HR.out.set (s i) v).congr (fun j hj => by
                  by_cases c1 : j = s i
                  · rw [if_pos c1, hv, c1]; unfold pk; rw [hts, if_pos (by omega)]
                  · rw [if_neg c1]
                    have c2 : t j ≠ i := fun e => c1 (by rw [← e, HPl2.out.st])
                    unfold pk
                    by_cases c3 : t j < i
                    · rw [if_pos c3, if_pos (by omega)]
                    · rw [if_neg c3, if_neg (by omega)])
                have a1 := (HRW.out.2 i (by omega)).1
                have a2 := (HR.out.2 (s i) hs).1
                have a3 := (HR.out.2 (s i) hs).2
                rw [HK.out] at a2
                have a4 : (s i : Int) < (k : Int) := by omega
                have a5 : (i : Int) < (L : Int) := by omega
                clear hts HK
                generalize hsi : s i = m at *
                generalize qs T zs m = q at *
                clear hsi
                go_wp2
                go_roundw
                case rel => exact ⟨i + 1, by go_num, by omega, HR2.out _ rfl, HRW.out.other _ _ (by show P ≠ B; omega), grew_set HG.out _ HNP⟩
                case measure => simp only [intOf]; omega
              · obtain rfl : i = L := by omega
                have HF : Hid (RowI wr P k (pt T zs t)) := HR.out.congr (fun j _ => by
                  unfold pk pt
                  rw [HL.out]
                  by_cases c1 : t j < i
                  · rw [if_pos c1, if_pos (by omega)]
                  · rw [if_neg c1, if_neg (by omega)])
                go_wp2
                refine bodyPost_ret (v := .tuple #[.slice (some ⟨P, 0, none⟩) k k, .int .i64 0]) (by simp [results, Tryz.results18, go_sem]) rfl ⟨HG.out, Or.inr (Or.inr ⟨⟨HE.out, HQ.out⟩, P, s, t, HNP, HPl2.out, rfl, HF.out⟩)⟩
  · have h1 : (E != 0) = true := by simpa using h0
    have HE : Hid (chkE T zs = E) := hE
    have H0 := Lib.hid h0
    clear hE h0
    go_enter Tryz.func18, Tryz.ntmps18
    go_wp2_with (go_at_call 36; ((with_reducible refine C.mono ?_); rintro e w1 ⟨rfl, hg1⟩; have HG1 := Lib.hid hg1; clear hg1))
    refine bodyPost_ret (v := .tuple #[.slice none 0 0, .int .i64 E]) (by simp [results, Tryz.results18, go_sem]) rfl ⟨HG1.out, Or.inl ⟨by rw [HE.out]; exact H0.out, by rw [HE.out]⟩⟩
end Go.Proofs.YtahioajpmlochaaGreat.NumK
namespace Go.Proofs.YtahioajpmlochaaGreat.NumK
open Go.RowKit
set_option linter.unusedVariables false

theorem plF_len (f : Ky → Int × Int) (m : Nat) : (plF f m).length ≤ 128 := by
  unfold plF
  refine Nat.le_trans (List.length_filterMap_le _ _) ?_
  rw [List.length_take, grid_len]; omega
theorem plA_len (f : Ky → Int × Int) : (plA f).length ≤ 128 := by rw [← pl_all]; exact plF_len f 128
theorem right_lens {b : Bk} (h : rightB b = true) : b.2.1.length ≤ 128 ∧ b.2.2.length ≤ 128 := by
  obtain ⟨h1, h2, h3⟩ := (rightB_iff b).1 h
  refine ⟨h2.2, ?_⟩
  rw [← right_self h3]; exact plA_len _
end Go.Proofs.YtahioajpmlochaaGreat.NumK
