/- grid.Margin. -/
import Derived.Test.YtodnllopokoicaaGreatRH44
namespace Go.Proofs.YtodnllopokoicaaGreat.NumK
open Go.RowKit
set_option linter.unusedVariables false

theorem marg_ok {r : Rl} {who cur : Int} {l : List Po} (h : lossE r who cur l = 0) : margE r who cur l = capE (margV r who cur l) ∧ margN r who cur l = capV (margV r who cur l) := by
  unfold margN margE capE capV
  rw [if_pos h]
  by_cases c : isMoney (margV r who cur l) = true <;> simp [c]
theorem marg_no {r : Rl} {who cur : Int} {l : List Po} (h : lossE r who cur l ≠ 0) : margE r who cur l = lossE r who cur l ∧ margN r who cur l = 0 := by
  have e : margE r who cur l = lossE r who cur l := by unfold margE; rw [if_neg h]
  exact ⟨e, by unfold margN; rw [if_neg (by rw [e]; exact h)]⟩
theorem add_le {r : Rl} {who cur : Int} {l : List Po} (h : rightR r = true) (hq : qsOK l = true) : (addG r who cur l).natAbs ≤ l.length * 1180591620717411303424 := by
  rw [← tot_add]
  refine tot_le _ _ _ _ _ _ fun p hp hc => ?_
  exact Nat.le_trans (add_i (inst_ok (right_i h) (cnt_has hc)) (qsOK_iff.1 hq p hp)).1 (by decide)
theorem most_money {r : Rl} {who cur : Int} {l : List Po} (h : lossOK r who cur l = true) : 0 ≤ mostV (lossV r who cur l) 6 ∧ mostV (lossV r who cur l) 6 ≤ 4611686018427387904 :=
  ⟨most_nonneg _ _, most_le _ _ (by decide) 6 fun j hj => by have := lossOK_iff.1 h j hj; rw [isMoney_iff] at this; omega⟩

set_option maxRecDepth 100000 in
set_option maxHeartbeats 4000000 in
theorem margin_any (r : Rl) (A1 A2 A3 B : Option Addr) (n1 n2 n3 c1 c2 c3 n c : Nat) (who cur : Int) (l : List Po) (w : World) (h3 : Rows3 w r A1 A2 A3 n1 n2 n3) (hn3 : n1 ≤ 1000000 ∧ n2 ≤ 1000000 ∧ n3 ≤ 1000000) (h : RowE enPo w B n l) (hn : n ≤ 1000000) :
    Calls Tryz.prog 36 #[rlV A1 A2 A3 n1 n2 n3 c1 c2 c3, .int .i64 who, .int .i64 cur, .slice B n c] w fun e w' => e = .returned (.tuple #[.int .i64 (margN r who cur l), .int .i64 (margE r who cur l)]) ∧ Grew w w' := by
  have HC1 := Lib.hid (fun w' (g : Grew w w') => losses_any r A1 A2 A3 B n1 n2 n3 c1 c2 c3 n c who cur l w' (h3.keep g) hn3 (h.keep g) hn)
  have HT := Lib.hid (fun (h1 : rightR r = true) (h2 : qsOK l = true) w' (g : Grew w w') => total_any 91 #[] addI (fun args w => by rfl) r A1 A2 A3 B n1 n2 n3 c1 c2 c3 n c who cur l w' (h3.keep g) hn3.2.1 (h.keep g) hn (part_add h1 h2) (fun p hp hc => by have := (add_i (inst_ok (right_i h1) (cnt_has hc)) (qsOK_iff.1 h2 p hp)).1; exact Nat.le_trans this (by decide)))
  have HLn : l.length ≤ 1000000 := by rw [h.len]; exact hn
  have HR0 : Hid (OwnC (w.alloc (.cells #[.slice A1 n1 c1, .slice A2 n2 c2, .slice A3 n3 c3] 28)) w.heap.size [.slice A1 n1 c1, .slice A2 n2 c2, .slice A3 n3 c3]) := OwnC.new w [.slice A1 n1 c1, .slice A2 n2 c2, .slice A3 n3 c3] _ _ rfl
  have HG0 : Hid (Grew w (w.alloc (.cells #[.slice A1 n1 c1, .slice A2 n2 c2, .slice A3 n3 c3] 28))) := grew_alloc _ _ _
  dsimp only [rlV] at HC1 HT ⊢
  clear h h3
  by_cases he : lossE r who cur l = 0
  · obtain ⟨g1, g2, g3⟩ := lossE_iff.1 he
    have hA : lossA r who cur l = lossV r who cur l := (lossA_ok g1 g2 (lossOK_iff.1 g3)).2
    obtain ⟨hE, hN⟩ := marg_ok he
    rw [hE, hN]
    rw [he, hA] at HC1
    have HT := Lib.hid (HT.out g1 g2)
    rw [tot_add] at HT
    have CM := fun b w' (h : OwnC w' b [.int .i64 (lossV r who cur l 0), .int .i64 (lossV r who cur l 1), .int .i64 (lossV r who cur l 2), .int .i64 (lossV r who cur l 3), .int .i64 (lossV r who cur l 4), .int .i64 (lossV r who cur l 5)]) => maxRow_any (some ⟨b, 0, none⟩) 6 6 _ w' (ints_own (lossV r who cur l) h) (by decide) (by decide)
    have hmx := most_mx (lossV r who cur l) 5
    obtain ⟨m0, m1⟩ := most_money g3
    have ha := add_le (who := who) (cur := cur) g1 g2
    have hv : mostV (lossV r who cur l) 6 + addG r who cur l = margV r who cur l := rfl
    have CO := fun w => wof_any (mostV (lossV r who cur l) 6) w (by omega)
    have wX : isWide (mostV (lossV r who cur l) 6) = true := isWide_abs (by omega)
    have wY : isWide (addG r who cur l) = true := isWide_abs (by omega)
    have wV : isWide (margV r who cur l) = true := isWide_abs (by omega)
    have CS := fun w w' N hN g => wsum2_any (mostV (lossV r who cur l) 6) (addG r who cur l) (margV r who cur l) _ _ _ _ _ _ w w' N hN g wX wY wV hv rfl rfl rfl rfl rfl rfl
    have CI := fun w => wint_any (margV r who cur l) w
    clear wX wY wV hv ha m0 m1 g1 g2 g3 hA hE hN HLn he
    change ∀ b w', _ → Calls _ _ _ _ fun e w'' => e = .returned (.int .i64 (mxN (lossV r who cur l) 5)) ∧ _ at CM
    dsimp only [wvV, v6] at HT CI HC1 CO
    generalize mxN (lossV r who cur l) 5 = mx at *
    generalize margV r who cur l = V at *
    generalize addG r who cur l = Y at *
    generalize mostV (lossV r who cur l) 6 = X at *
    generalize capV V = cv at *
    generalize capE V = ce at *
    generalize hi64 V = v1 at *
    generalize lo64 V = v2 at *
    generalize hi64 Y = y1 at *
    generalize lo64 Y = y2 at *
    generalize lossV r who cur l = f at *
    go_enter Tryz.func36, Tryz.ntmps36
    go_upto_region 1 with (fail)
    generalize (w.alloc (.cells #[.slice A1 n1 c1, .slice A2 n2 c2, .slice A3 n3 c3] 28)) = w0 at *
    have r0 := HR0.out.at 0 (.slice A1 n1 c1) rfl; have r1 := HR0.out.at 1 (.slice A2 n2 c2) rfl; have r2 := HR0.out.at 2 (.slice A3 n3 c3) rfl
    go_upto_region 2 with (go_at_call 89; ((with_reducible refine (HC1.out _ HG0.out).mono ?_); rintro e w1 ⟨rfl, hg⟩; have HR1 := Lib.hid (HR0.out.keep hg); have HG1 := Lib.hid (grew_trans HG0.out hg); clear hg HR0 HG0 r0 r1 r2))
    by_cases hx : 0 < mx
    · rw [if_pos hx] at hmx
      subst hmx
      clear hn3 hn
      have HR2 := Lib.hid (HR1.out.keep (grew_alloc w1 #[.int .i64 (f 0), .int .i64 (f 1), .int .i64 (f 2), .int .i64 (f 3), .int .i64 (f 4), .int .i64 (f 5)] 96))
      have HL2 : Hid (OwnC (w1.alloc (.cells #[.int .i64 (f 0), .int .i64 (f 1), .int .i64 (f 2), .int .i64 (f 3), .int .i64 (f 4), .int .i64 (f 5)] 96)) w1.heap.size [.int .i64 (f 0), .int .i64 (f 1), .int .i64 (f 2), .int .i64 (f 3), .int .i64 (f 4), .int .i64 (f 5)]) := OwnC.new w1 [.int .i64 (f 0), .int .i64 (f 1), .int .i64 (f 2), .int .i64 (f 3), .int .i64 (f 4), .int .i64 (f 5)] _ _ rfl
      have HG2 := Lib.hid (grew_trans HG1.out (grew_alloc w1 #[.int .i64 (f 0), .int .i64 (f 1), .int .i64 (f 2), .int .i64 (f 3), .int .i64 (f 4), .int .i64 (f 5)] 96))
      clear HR1 HG1
      go_upto_region 4 with (fail)
      generalize (w1.alloc (.cells #[.int .i64 (f 0), .int .i64 (f 1), .int .i64 (f 2), .int .i64 (f 3), .int .i64 (f 4), .int .i64 (f 5)] 96)) = w2 at *
      generalize w1.heap.size = lb at *
      have r0 := HR2.out.at 0 (.slice A1 n1 c1) rfl; have r1 := HR2.out.at 1 (.slice A2 n2 c2) rfl; have r2 := HR2.out.at 2 (.slice A3 n3 c3) rfl
      go_upto_region 5 with (go_at_call 90; ((with_reducible refine (HT.out _ HG2.out).mono ?_); rintro e w3 ⟨rfl, hg⟩; have HL3 := Lib.hid (HL2.out.keep hg); have HG3 := Lib.hid (grew_trans HG2.out hg); clear hg HR2 HL2 HG2 r0 r1 r2))
      have HX4 : Hid (OwnC (w3.alloc (.cells #[.int .i64 y1, .int .u64 y2] 101)) w3.heap.size [.int .i64 y1, .int .u64 y2]) := OwnC.new w3 [.int .i64 y1, .int .u64 y2] _ _ rfl
      have HL4 := Lib.hid (HL3.out.keep (grew_alloc w3 #[.int .i64 y1, .int .u64 y2] 101))
      have HG4 := Lib.hid (grew_trans HG3.out (grew_alloc w3 #[.int .i64 y1, .int .u64 y2] 101))
      clear HL3 HG3
      generalize (w3.alloc (.cells #[.int .i64 y1, .int .u64 y2] 101)) = w4 at *
      generalize w3.heap.size = xb at *
      go_upto_region 6 with (go_at_call 93; ((with_reducible refine (CM lb _ HL4.out).mono ?_); rintro e w5 ⟨rfl, rfl⟩))
      have HS : Hid (∀ w', Grew w4 w' → w'.cell? ⟨xb, 0, none⟩ = some (.int .i64 y1) ∧ w'.cell? ⟨xb, 1, none⟩ = some (.int .u64 y2)) := fun w' g => ⟨(HX4.out.keep g).at 0 _ rfl, (HX4.out.keep g).at 1 _ rfl⟩
      clear HX4 HL4 HT HC1 CM
      go_region_held3 (fun w' => w'.cell? ⟨xb, 0, none⟩ = some (.int .i64 y1) ∧ w'.cell? ⟨xb, 1, none⟩ = some (.int .u64 y2))
        (first
          | (with_reducible exact HS.out _ (grew_drew (grew_refl _)))
          | (with_reducible exact HS.out _ (grew_trans (grew_drew (grew_refl _)) (grew_alloc _ _ _)))
          | (with_reducible exact HS.out _ HGA.out)
          | (with_reducible exact HS.out _ (grew_trans HGA.out (grew_alloc _ _ _)))
          | (with_reducible exact HS.out _ (grew_trans HGA.out (grew_trans (grew_alloc _ _ _) (grew_alloc _ _ _))))
          | (with_reducible exact HS.out _ HGC.out)
          | (with_reducible exact HS.out _ (grew_trans HGC.out (grew_alloc _ _ _)))
          | (with_reducible exact HS.out _ (grew_set (grew_set (grew_trans HGC.out (grew_alloc _ _ _)) _ (grew_size HGC.out)) _ (grew_size HGC.out)))
          | (with_reducible exact HS.out _ (grew_set (grew_set HGC.out _ HBS.out) _ HBS.out)))
        (first
          | (go_at_call 95; (with_reducible refine (CO _).mono ?_); rintro e w6 ⟨rfl, hg⟩; have HGA : Hid (Grew w4 w6) := grew_trans (grew_drew (grew_refl _)) hg; have HZA : Hid (w4.heap.size ≤ w6.heap.size) := grew_size HGA.out; clear hg)
          | (go_at_call 95; (with_reducible refine (CO _).mono ?_); rintro e w6 ⟨rfl, hg⟩; have HGA : Hid (Grew w4 w6) := grew_trans (grew_trans (grew_drew (grew_refl _)) (grew_alloc _ _ _)) hg; have HB3 : Hid (OwnC w6 w4.heap.size [.int .i64 0, .int .u64 0]) := (OwnC.new w4.drew [.int .i64 0, .int .u64 0] _ w4.heap.size rfl).keep hg; have HBS : Hid (w4.heap.size ≤ w4.heap.size) := Nat.le_refl _; clear hg)
          | (go_at_call 94; (with_reducible refine (CS _ _ _ rfl (grew_refl _)).mono ?_); rintro e w7 ⟨rfl, hg⟩; have HB4 := Lib.hid (HB3.out.keep (grew_trans (grew_alloc _ _ _) hg)); have HGC : Hid (Grew w4 w7) := grew_trans HGA.out (grew_trans (grew_alloc _ _ _) hg); have y0 := HB4.out.at 0 (.int .i64 0) rfl; have y1' := HB4.out.at 1 (.int .u64 0) rfl; have f0 := HB4.out.fr 0 (by simp); have f1 := HB4.out.fr 1 (by simp); clear hg)
          | (go_at_call 94; (with_reducible refine (CS _ _ _ rfl (grew_refl _)).mono ?_); rintro e w7 ⟨rfl, hg⟩; have HGC : Hid (Grew w4 w7) := grew_trans HGA.out (grew_trans (grew_alloc _ _ _) hg); clear hg)
          | (go_at_call 94; (with_reducible refine (CS _ _ _ rfl (grew_alloc _ _ _)).mono ?_); rintro e w7 ⟨rfl, hg⟩; have HB4 : Hid (OwnC w7 (w6.heap.size + 1) [.int .i64 0, .int .u64 0]) := (OwnC.new _ [.int .i64 0, .int .u64 0] _ _ (by simp)).keep hg; have HBS : Hid (w4.heap.size ≤ w6.heap.size + 1) := Nat.le_succ_of_le HZA.out; have HGC : Hid (Grew w4 w7) := grew_trans HGA.out (grew_trans (grew_trans (grew_alloc _ _ _) (grew_alloc _ _ _)) hg); have y0 := HB4.out.at 0 (.int .i64 0) rfl; have y1' := HB4.out.at 1 (.int .u64 0) rfl; have f0 := HB4.out.fr 0 (by simp); have f1 := HB4.out.fr 1 (by simp); clear hg)
          | (go_at_call 94; (with_reducible refine (CS (w6.alloc _) _ _ (by simp) (grew_refl _)).mono ?_); rintro e w7 ⟨rfl, hg⟩; have HB4 : Hid (OwnC w7 w6.heap.size [.int .i64 0, .int .u64 0]) := ((OwnC.new _ [.int .i64 0, .int .u64 0] _ _ rfl).keep (grew_alloc _ _ _)).keep hg; have HBS : Hid (w4.heap.size ≤ w6.heap.size) := HZA.out; have HGC : Hid (Grew w4 w7) := grew_trans HGA.out (grew_trans (grew_trans (grew_alloc _ _ _) (grew_alloc _ _ _)) hg); have y0 := HB4.out.at 0 (.int .i64 0) rfl; have y1' := HB4.out.at 1 (.int .u64 0) rfl; have f0 := HB4.out.fr 0 (by simp); have f1 := HB4.out.fr 1 (by simp); clear hg))
      all_goals
        (first
          | refine end_put (w := w) (P := Exit.then _ _ Exit.normal _) [.int .i64 v1, .int .u64 v2] (by rfl) HB4.out (grew_trans HG4.out HGC.out) (Nat.le_trans (grew_size HG4.out) HBS.out) ?_
          | refine end_new (w := w) (P := Exit.then _ _ Exit.normal _) [.int .i64 v1, .int .u64 v2] 101 (grew_trans HG4.out HGC.out) ?_
         intro w8 h8 g8
         have z0 := h8.at 0 _ rfl
         have z1 := h8.at 1 _ rfl
         have HG8 := Lib.hid g8
         clear h8 g8
         apply_assumption
         go_wp2_with (go_at_call 96; ((with_reducible refine (CI _).mono ?_); rintro e w9 ⟨rfl, hg⟩; have HG9 := Lib.hid (grew_trans HG8.out hg); clear hg))
         go_ret2
         exact ⟨rfl, HG9.out⟩)
    · rw [if_neg hx] at hmx
      subst hmx
      clear hn3 hn
      have HR2 := Lib.hid (HR1.out.keep (grew_alloc w1 #[.int .i64 (f 0), .int .i64 (f 1), .int .i64 (f 2), .int .i64 (f 3), .int .i64 (f 4), .int .i64 (f 5)] 96))
      have HL2 : Hid (OwnC (w1.alloc (.cells #[.int .i64 (f 0), .int .i64 (f 1), .int .i64 (f 2), .int .i64 (f 3), .int .i64 (f 4), .int .i64 (f 5)] 96)) w1.heap.size [.int .i64 (f 0), .int .i64 (f 1), .int .i64 (f 2), .int .i64 (f 3), .int .i64 (f 4), .int .i64 (f 5)]) := OwnC.new w1 [.int .i64 (f 0), .int .i64 (f 1), .int .i64 (f 2), .int .i64 (f 3), .int .i64 (f 4), .int .i64 (f 5)] _ _ rfl
      have HG2 := Lib.hid (grew_trans HG1.out (grew_alloc w1 #[.int .i64 (f 0), .int .i64 (f 1), .int .i64 (f 2), .int .i64 (f 3), .int .i64 (f 4), .int .i64 (f 5)] 96))
      clear HR1 HG1
      go_upto_region 4 with (fail)
      generalize (w1.alloc (.cells #[.int .i64 (f 0), .int .i64 (f 1), .int .i64 (f 2), .int .i64 (f 3), .int .i64 (f 4), .int .i64 (f 5)] 96)) = w2 at *
      generalize w1.heap.size = lb at *
      have r0 := HR2.out.at 0 (.slice A1 n1 c1) rfl; have r1 := HR2.out.at 1 (.slice A2 n2 c2) rfl; have r2 := HR2.out.at 2 (.slice A3 n3 c3) rfl
      go_upto_region 5 with (go_at_call 90; ((with_reducible refine (HT.out _ HG2.out).mono ?_); rintro e w3 ⟨rfl, hg⟩; have HL3 := Lib.hid (HL2.out.keep hg); have HG3 := Lib.hid (grew_trans HG2.out hg); clear hg HR2 HL2 HG2 r0 r1 r2))
      have HX4 : Hid (OwnC (w3.alloc (.cells #[.int .i64 y1, .int .u64 y2] 101)) w3.heap.size [.int .i64 y1, .int .u64 y2]) := OwnC.new w3 [.int .i64 y1, .int .u64 y2] _ _ rfl
      have HL4 := Lib.hid (HL3.out.keep (grew_alloc w3 #[.int .i64 y1, .int .u64 y2] 101))
      have HG4 := Lib.hid (grew_trans HG3.out (grew_alloc w3 #[.int .i64 y1, .int .u64 y2] 101))
      clear HL3 HG3
      generalize (w3.alloc (.cells #[.int .i64 y1, .int .u64 y2] 101)) = w4 at *
      generalize w3.heap.size = xb at *
      go_upto_region 6 with (go_at_call 93; ((with_reducible refine (CM lb _ HL4.out).mono ?_); rintro e w5 ⟨rfl, rfl⟩))
      have HS : Hid (∀ w', Grew w4 w' → w'.cell? ⟨xb, 0, none⟩ = some (.int .i64 y1) ∧ w'.cell? ⟨xb, 1, none⟩ = some (.int .u64 y2)) := fun w' g => ⟨(HX4.out.keep g).at 0 _ rfl, (HX4.out.keep g).at 1 _ rfl⟩
      clear HX4 HL4 HT HC1 CM
      go_region_held3 (fun w' => w'.cell? ⟨xb, 0, none⟩ = some (.int .i64 y1) ∧ w'.cell? ⟨xb, 1, none⟩ = some (.int .u64 y2))
        (first
          | (with_reducible exact HS.out _ (grew_drew (grew_refl _)))
          | (with_reducible exact HS.out _ (grew_trans (grew_drew (grew_refl _)) (grew_alloc _ _ _)))
          | (with_reducible exact HS.out _ HGA.out)
          | (with_reducible exact HS.out _ (grew_trans HGA.out (grew_alloc _ _ _)))
          | (with_reducible exact HS.out _ (grew_trans HGA.out (grew_trans (grew_alloc _ _ _) (grew_alloc _ _ _))))
          | (with_reducible exact HS.out _ HGC.out)
          | (with_reducible exact HS.out _ (grew_trans HGC.out (grew_alloc _ _ _)))
          | (with_reducible exact HS.out _ (grew_set (grew_set (grew_trans HGC.out (grew_alloc _ _ _)) _ (grew_size HGC.out)) _ (grew_size HGC.out)))
          | (with_reducible exact HS.out _ (grew_set (grew_set HGC.out _ HBS.out) _ HBS.out)))
        (first
          | (go_at_call 95; (with_reducible refine (CO _).mono ?_); rintro e w6 ⟨rfl, hg⟩; have HGA : Hid (Grew w4 w6) := grew_trans (grew_drew (grew_refl _)) hg; have HZA : Hid (w4.heap.size ≤ w6.heap.size) := grew_size HGA.out; clear hg)
          | (go_at_call 95; (with_reducible refine (CO _).mono ?_); rintro e w6 ⟨rfl, hg⟩; have HGA : Hid (Grew w4 w6) := grew_trans (grew_trans (grew_drew (grew_refl _)) (grew_alloc _ _ _)) hg; have HB3 : Hid (OwnC w6 w4.heap.size [.int .i64 0, .int .u64 0]) := (OwnC.new w4.drew [.int .i64 0, .int .u64 0] _ w4.heap.size rfl).keep hg; have HBS : Hid (w4.heap.size ≤ w4.heap.size) := Nat.le_refl _; clear hg)
          | (go_at_call 94; (with_reducible refine (CS _ _ _ rfl (grew_refl _)).mono ?_); rintro e w7 ⟨rfl, hg⟩; have HB4 := Lib.hid (HB3.out.keep (grew_trans (grew_alloc _ _ _) hg)); have HGC : Hid (Grew w4 w7) := grew_trans HGA.out (grew_trans (grew_alloc _ _ _) hg); have y0 := HB4.out.at 0 (.int .i64 0) rfl; have y1' := HB4.out.at 1 (.int .u64 0) rfl; have f0 := HB4.out.fr 0 (by simp); have f1 := HB4.out.fr 1 (by simp); clear hg)
          | (go_at_call 94; (with_reducible refine (CS _ _ _ rfl (grew_refl _)).mono ?_); rintro e w7 ⟨rfl, hg⟩; have HGC : Hid (Grew w4 w7) := grew_trans HGA.out (grew_trans (grew_alloc _ _ _) hg); clear hg)
          | (go_at_call 94; (with_reducible refine (CS _ _ _ rfl (grew_alloc _ _ _)).mono ?_); rintro e w7 ⟨rfl, hg⟩; have HB4 : Hid (OwnC w7 (w6.heap.size + 1) [.int .i64 0, .int .u64 0]) := (OwnC.new _ [.int .i64 0, .int .u64 0] _ _ (by simp)).keep hg; have HBS : Hid (w4.heap.size ≤ w6.heap.size + 1) := Nat.le_succ_of_le HZA.out; have HGC : Hid (Grew w4 w7) := grew_trans HGA.out (grew_trans (grew_trans (grew_alloc _ _ _) (grew_alloc _ _ _)) hg); have y0 := HB4.out.at 0 (.int .i64 0) rfl; have y1' := HB4.out.at 1 (.int .u64 0) rfl; have f0 := HB4.out.fr 0 (by simp); have f1 := HB4.out.fr 1 (by simp); clear hg)
          | (go_at_call 94; (with_reducible refine (CS (w6.alloc _) _ _ (by simp) (grew_refl _)).mono ?_); rintro e w7 ⟨rfl, hg⟩; have HB4 : Hid (OwnC w7 w6.heap.size [.int .i64 0, .int .u64 0]) := ((OwnC.new _ [.int .i64 0, .int .u64 0] _ _ rfl).keep (grew_alloc _ _ _)).keep hg; have HBS : Hid (w4.heap.size ≤ w6.heap.size) := HZA.out; have HGC : Hid (Grew w4 w7) := grew_trans HGA.out (grew_trans (grew_trans (grew_alloc _ _ _) (grew_alloc _ _ _)) hg); have y0 := HB4.out.at 0 (.int .i64 0) rfl; have y1' := HB4.out.at 1 (.int .u64 0) rfl; have f0 := HB4.out.fr 0 (by simp); have f1 := HB4.out.fr 1 (by simp); clear hg))
      all_goals
        (first
          | refine end_put (w := w) (P := Exit.then _ _ Exit.normal _) [.int .i64 v1, .int .u64 v2] (by rfl) HB4.out (grew_trans HG4.out HGC.out) (Nat.le_trans (grew_size HG4.out) HBS.out) ?_
          | refine end_new (w := w) (P := Exit.then _ _ Exit.normal _) [.int .i64 v1, .int .u64 v2] 101 (grew_trans HG4.out HGC.out) ?_
         intro w8 h8 g8
         have z0 := h8.at 0 _ rfl
         have z1 := h8.at 1 _ rfl
         have HG8 := Lib.hid g8
         clear h8 g8
         apply_assumption
         go_wp2_with (go_at_call 96; ((with_reducible refine (CI _).mono ?_); rintro e w9 ⟨rfl, hg⟩; have HG9 := Lib.hid (grew_trans HG8.out hg); clear hg))
         go_ret2
         exact ⟨rfl, HG9.out⟩)
  · obtain ⟨hE, hN⟩ := marg_no he
    rw [hE, hN]
    clear hE hN HT HLn
    rw [lossA_no _ he rfl] at HC1
    have d0 : (lossE r who cur l != 0) = true := bne_iff_ne.2 he
    clear he
    generalize lossE r who cur l = E at *
    dsimp only [v6] at HC1
    go_enter Tryz.func36, Tryz.ntmps36
    go_upto_region 1 with (fail)
    generalize (w.alloc (.cells #[.slice A1 n1 c1, .slice A2 n2 c2, .slice A3 n3 c3] 28)) = w0 at *
    have r0 := HR0.out.at 0 (.slice A1 n1 c1) rfl; have r1 := HR0.out.at 1 (.slice A2 n2 c2) rfl; have r2 := HR0.out.at 2 (.slice A3 n3 c3) rfl
    go_wp2_with (go_at_call 89; ((with_reducible refine (HC1.out _ HG0.out).mono ?_); rintro e w1 ⟨rfl, hg⟩; have HG1 := Lib.hid (grew_trans HG0.out hg); clear hg HR0 HG0 r0 r1 r2))
    go_ret2
    exact ⟨rfl, grew_trans HG1.out (grew_alloc _ _ _)⟩
end Go.Proofs.YtodnllopokoicaaGreat.NumK
