/- book.Clear, Of, in, Sum. -/
import Derived.Test.YtahioajpmlochaaGreatRH14
import Derived.Test.YtahioajpmlochaaGreatRH2
import Derived.Deep.DeepCutAuto
import Derived.Test.YtahioajpmlochaaGreatRH3
import Derived.Test.YtahioajpmlochaaGreatRH12
namespace Go.Proofs.YtahioajpmlochaaGreat.NumK
open Go.RowKit
set_option linter.unusedVariables false

set_option maxRecDepth 100000 in
set_option maxHeartbeats 2000000 in
theorem clear_any (b : Bk) (A1 A2 : Option Addr) (n1 n2 c1 c2 : Nat) (w : World) (h : InB w b A1 A2 n1 n2 c1 c2) (hn : n2 ≤ 100000) :
    Calls Tryz.prog 29 #[vBk b.1 A1 A2 n1 n2 c1 c2] w (BookP (clearB b) w) := by
  have HL2 := Lib.hid h.p.len
  have CC := fun w' (g : Grew w w') => clonePo_any A2 n2 c2 b.2.2 w' (h.p.keep g) h.k2 (by omega)
  clear h
  have HB : Hid (clearB b = (b.1, [], b.2.2)) := rfl
  dsimp only [vBk]
  have HX0 : Hid (OwnC ((w.alloc (.cells #[.int .i64 b.1, .slice A1 n1 c1, .slice A2 n2 c2] 28)).alloc (.cells #[.int .i64 0, .slice none 0 0, .slice none 0 0] 28)) w.heap.size [.int .i64 b.1, .slice A1 n1 c1, .slice A2 n2 c2]) := (OwnC.new w [.int .i64 b.1, .slice A1 n1 c1, .slice A2 n2 c2] _ _ rfl).keep (grew_alloc _ _ _)
  have HY0 : Hid (OwnC ((w.alloc (.cells #[.int .i64 b.1, .slice A1 n1 c1, .slice A2 n2 c2] 28)).alloc (.cells #[.int .i64 0, .slice none 0 0, .slice none 0 0] 28)) (w.heap.size + 1) [.int .i64 0, .slice none 0 0, .slice none 0 0]) := OwnC.new _ [.int .i64 0, .slice none 0 0, .slice none 0 0] _ _ (by simp)
  have HG0 : Hid (Grew w ((w.alloc (.cells #[.int .i64 b.1, .slice A1 n1 c1, .slice A2 n2 c2] 28)).alloc (.cells #[.int .i64 0, .slice none 0 0, .slice none 0 0] 28))) := grew_trans (grew_alloc _ _ _) (grew_alloc _ _ _)
  generalize b.1 = nx at *
  go_enter Tryz.func29, Tryz.ntmps29
  go_upto_region 1 with fail
  generalize (w.alloc (.cells #[.int .i64 nx, .slice A1 n1 c1, .slice A2 n2 c2] 28)).alloc (.cells #[.int .i64 0, .slice none 0 0, .slice none 0 0] 28) = w0 at *
  have HSZ : Hid (w.heap.size + 2 ≤ w0.heap.size) := by have := HY0.out.lt; show _ ≤ _; omega
  have HS : Hid (∀ w', Grew w0 w' → w'.cell? ⟨w.heap.size, 0, none⟩ = some (.int .i64 nx) ∧ w'.cell? ⟨w.heap.size, 2, none⟩ = some (.slice A2 n2 c2)) := fun w' g => ⟨(HX0.out.keep g).at 0 _ rfl, (HX0.out.keep g).at 2 _ rfl⟩
  go_region_held3 (fun w' => w'.cell? ⟨w.heap.size, 0, none⟩ = some (.int .i64 nx) ∧ w'.cell? ⟨w.heap.size, 2, none⟩ = some (.slice A2 n2 c2))
    (first
      | exact ⟨HXP.out.at 0 _ rfl, HXP.out.at 2 _ rfl⟩
      | exact HS.out _ HG3.out
      | exact HS.out _ (grew_drew (grew_refl _))
      | (trace_state; fail))
    ((go_at_call 54; (with_reducible refine (CC _ (grew_drew HG0.out)).mono ?_); rintro e w3 ⟨A', c', rfl, ho, hg⟩; have HG3 : Hid (Grew w0 w3) := grew_trans (grew_drew (grew_refl _)) hg; have HO := Lib.hid ho; have HX3 := Lib.hid (HX0.out.keep HG3.out); have HY3 := Lib.hid (HY0.out.keep HG3.out); have HXP : Hid (OwnC (putC w3 (w.heap.size + 1) 0 [.int .i64 nx, .slice none 0 0, .slice A' n2 c']) w.heap.size [.int .i64 nx, .slice A1 n1 c1, .slice A2 n2 c2]) := OwnC.putO (by omega) _ _ _ HX3.out; have y0 : w3.cell? ⟨w.heap.size + 1, 0, none⟩ = some (.int .i64 0) := HY3.out.at 0 _ rfl; have y1 : w3.cell? ⟨w.heap.size + 1, 1, none⟩ = some (.slice none 0 0) := HY3.out.at 1 _ rfl; have y2 : w3.cell? ⟨w.heap.size + 1, 2, none⟩ = some (.slice none 0 0) := HY3.out.at 2 _ rfl; have f0 : w3.frozen? ⟨w.heap.size + 1, 0, none⟩ = false := HY3.out.fr 0 (by decide); have f1 : w3.frozen? ⟨w.heap.size + 1, 1, none⟩ = false := HY3.out.fr 1 (by decide); have f2 : w3.frozen? ⟨w.heap.size + 1, 2, none⟩ = false := HY3.out.fr 2 (by decide); clear ho hg))
  have HYP := Lib.hid (HY3.out.all [.int .i64 nx, .slice none 0 0, .slice A' n2 c'] rfl)
  have HGP := Lib.hid (grew_put (w.heap.size + 1) (Nat.le_succ _) [.int .i64 nx, .slice none 0 0, .slice A' n2 c'] 0 _ (grew_trans HG0.out HG3.out))
  have HOP := Lib.hid (OwnE.put (b := w.heap.size + 1) (base := w.heap.size + 2) (by omega) [.int .i64 nx, .slice none 0 0, .slice A' n2 c'] 0 _ (HO.out.mono HSZ.out))
  change Exit.then _ _ _ _ (putC w3 (w.heap.size + 1) 0 [.int .i64 nx, .slice none 0 0, .slice A' n2 c'])
  generalize putC w3 (w.heap.size + 1) 0 [.int .i64 nx, .slice none 0 0, .slice A' n2 c'] = w9 at *
  clear y0 y1 y2 f0 f1 f2 HY3 HX3 HXP HS
  have z0 : w9.cell? ⟨w.heap.size + 1, 0, none⟩ = _ := HYP.out.at 0 _ rfl
  have z1 : w9.cell? ⟨w.heap.size + 1, 1, none⟩ = _ := HYP.out.at 1 _ rfl
  have z2 : w9.cell? ⟨w.heap.size + 1, 2, none⟩ = _ := HYP.out.at 2 _ rfl
  apply_assumption
  go_wp2
  refine bodyPost_ret (v := .agg #[.int .i64 nx, .slice none 0 0, .slice A' n2 c']) (by simp [results, Tryz.results29, go_sem, z0, z1, z2]) rfl ?_
  rw [HB.out]
  rw [← HL2.out] at HOP ⊢
  exact ⟨none, A', 0, c', rfl, ⟨OwnE.nil _ _ _ _, HOP.out.mono (by omega), fun x y h => by cases h⟩, HGP.out⟩
end Go.Proofs.YtahioajpmlochaaGreat.NumK
namespace Go.Proofs.YtahioajpmlochaaGreat.NumK
open Go.RowKit
set_option linter.unusedVariables false

theorem filt_len (l : List Po) (p : Po → Bool) (j : Nat) : ((l.take j).filter p).length ≤ j := Nat.le_trans (List.length_filter_le _ _) (by rw [List.length_take]; omega)

theorem both_sum (l : List Po) (m : Int) : bothQ l m = sumPQ (l.filter (isI m)) ∧ bothC l m = sumPC (l.filter (isI m)) := by
  unfold bothQ bothC sumPQ sumPC
  have e : bothOK l m = decide (sumPE (l.filter (isI m)) = 0) := by
    unfold bothOK sumPE
    cases h1 : (l.filter (isI m)).all okAm
    · simp
    · show (true && (isMoney (qI l m) && isMoney (cI l m))) = decide ((if true = true then (if (isMoney (qI l m) && isMoney (cI l m)) = true then (0 : Int) else 1) else 3) = 0)
      cases isMoney (qI l m) && isMoney (cI l m) <;> simp
  rw [e]
  constructor
  · by_cases h : sumPE (l.filter (isI m)) = 0
    · rw [if_pos (by simpa using h), if_pos h]; rfl
    · rw [if_neg (by simpa using h), if_neg h]
  · by_cases h : sumPE (l.filter (isI m)) = 0
    · rw [if_pos (by simpa using h), if_pos h]; rfl
    · rw [if_neg (by simpa using h), if_neg h]

/-! ### Of -/
theorem of_found (l : List Po) (k : Ky) (j : Nat) (h : j < l.length) (h0 : ∀ i, i < j → isK k (l.getD i po0) = false) (h1 : isK k (l.getD j po0) = true) : ofP l k = l.getD j po0 := by
  unfold ofP
  have e : l.find? (isK k) = some l[j] := by
    rw [List.find?_eq_some_iff_getElem]
    refine ⟨by rw [← getD_at l po0 j h]; exact h1, j, h, rfl, fun i hi => ?_⟩
    have := h0 i hi
    rw [getD_at l po0 i (by omega)] at this
    rw [this]; rfl
  rw [e, getD_at l po0 j h]; rfl
theorem of_none (l : List Po) (k : Ky) (h0 : ∀ i, i < l.length → isK k (l.getD i po0) = false) : ofP l k = (k.1, k.2, 0, 0) := by
  unfold ofP
  have e : l.find? (isK k) = none := by
    rw [List.find?_eq_none]
    intro x hx
    obtain ⟨i, hi, rfl⟩ := List.getElem_of_mem hx
    have := h0 i hi
    rw [getD_at l po0 i hi] at this
    rw [this]; decide
  rw [e]; rfl
theorem isK_alt (a b : Int) (x : Po) : isK (a, b) x = (decide (x.1 = a) && decide (x.2.1 = b)) := rfl
theorem run_equalKy (w : World) (a b c d : Int) (E : Bool) (h : E = (decide (a = c) && decide (b = d))) :
    (Op.equalIn 10000 24 (.agg #[.int .i64 a, .int .i64 b]) (.agg #[.int .i64 c, .int .i64 d])).run Tryz.prog w = .ok E w := by
  subst h
  rw [run_equalIn_struct w 9999 _ _ _ (by kernel_rfl) (by kernel_rfl)]
  go_simp
  repeat' split
  all_goals simp_all

set_option maxRecDepth 100000 in
set_option maxHeartbeats 2000000 in
theorem bof_any (b : Bk) (A1 A2 : Option Addr) (n1 n2 c1 c2 : Nat) (k1 k2 : Int) (w : World) (h : InB w b A1 A2 n1 n2 c1 c2) (hn : n2 ≤ 100000) :
    Calls Tryz.prog 15 #[vBk b.1 A1 A2 n1 n2 c1 c2, vKy (k1, k2)] w fun e w' => e = .returned (vPo (ofP b.2.2 (k1, k2))) ∧ Grew w w' := by
  have HI := Lib.hid h.p
  have HL := Lib.hid h.p.len
  have HF := Lib.hid (of_found b.2.2 (k1, k2))
  have HNo := Lib.hid (of_none b.2.2 (k1, k2))
  clear h
  dsimp only [vBk, vKy]
  have HX0 : Hid (OwnC (((w.alloc (.cells #[.int .i64 b.1, .slice A1 n1 c1, .slice A2 n2 c2] 28)).alloc (.cells #[.int .i64 k1, .int .i64 k2] 24)).alloc (.cells #[.int .i64 0, .int .i64 0, .int .i64 0, .int .i64 0] 31)) w.heap.size [.int .i64 b.1, .slice A1 n1 c1, .slice A2 n2 c2]) := ((OwnC.new w [.int .i64 b.1, .slice A1 n1 c1, .slice A2 n2 c2] _ _ rfl).keep (grew_alloc _ _ _)).keep (grew_alloc _ _ _)
  have HY0 : Hid (OwnC (((w.alloc (.cells #[.int .i64 b.1, .slice A1 n1 c1, .slice A2 n2 c2] 28)).alloc (.cells #[.int .i64 k1, .int .i64 k2] 24)).alloc (.cells #[.int .i64 0, .int .i64 0, .int .i64 0, .int .i64 0] 31)) (w.heap.size + 1) [.int .i64 k1, .int .i64 k2]) := (OwnC.new _ [.int .i64 k1, .int .i64 k2] _ _ (by simp)).keep (grew_alloc _ _ _)
  have HZ0 : Hid (OwnC (((w.alloc (.cells #[.int .i64 b.1, .slice A1 n1 c1, .slice A2 n2 c2] 28)).alloc (.cells #[.int .i64 k1, .int .i64 k2] 24)).alloc (.cells #[.int .i64 0, .int .i64 0, .int .i64 0, .int .i64 0] 31)) (w.heap.size + 1 + 1) [.int .i64 0, .int .i64 0, .int .i64 0, .int .i64 0]) := OwnC.new _ [.int .i64 0, .int .i64 0, .int .i64 0, .int .i64 0] _ _ (by simp)
  have HG0 : Hid (Grew w (((w.alloc (.cells #[.int .i64 b.1, .slice A1 n1 c1, .slice A2 n2 c2] 28)).alloc (.cells #[.int .i64 k1, .int .i64 k2] 24)).alloc (.cells #[.int .i64 0, .int .i64 0, .int .i64 0, .int .i64 0] 31))) := grew_trans (grew_trans (grew_alloc _ _ _) (grew_alloc _ _ _)) (grew_alloc _ _ _)
  generalize b.1 = nx at *
  generalize b.2.2 = l at *
  generalize ofP l (k1, k2) = R at *
  go_enter Tryz.func15, Tryz.ntmps15
  go_upto_region 1 with fail
  generalize ((w.alloc (.cells #[.int .i64 nx, .slice A1 n1 c1, .slice A2 n2 c2] 28)).alloc (.cells #[.int .i64 k1, .int .i64 k2] 24)).alloc (.cells #[.int .i64 0, .int .i64 0, .int .i64 0, .int .i64 0] 31) = w0 at *
  have x2 : w0.cell? ⟨w.heap.size, 2, none⟩ = some (.slice A2 n2 c2) := HX0.out.at 2 _ rfl
  go_wp2
  clear x2
  go_loopw [10] (fun v wr => ∃ j : Nat, v = .int .i64 j ∧ j ≤ n2 ∧ Hid (∀ i, i < j → isK (k1, k2) (l.getD i po0) = false) ∧ Hid (Grew w0 wr)) (fun v _ => n2 - (intOf v).toNat)
  case atStart => exact ⟨0, rfl, by omega, (by intro i hi; omega), grew_refl _⟩
  case round =>
    obtain ⟨j, rfl, hj, HK, HG⟩ := hrel
    have HGW := Lib.hid (grew_trans HG0.out HG.out)
    have HZ := Lib.hid (HZ0.out.keep HG.out)
    have HY := Lib.hid (HY0.out.keep HG.out)
    by_cases hlt : j < n2
    · have hjl : j < l.length := by rw [HL.out]; exact hlt
      obtain ⟨bb, o, rfl, hb, hc⟩ := (HI.out.keep HGW.out).po hlt
      obtain ⟨a0, a1, a2, a3⟩ := hc j hlt
      have HF1 := Lib.hid (HF.out j hjl HK.out)
      have HK1 : Hid (isK (k1, k2) (l.getD j po0) = false → ∀ i, i < j + 1 → isK (k1, k2) (l.getD i po0) = false) := fun h i hi => by
        rcases Nat.lt_or_ge i j with h1 | h1
        · exact HK.out i h1
        · obtain rfl : i = j := by omega
          exact h
      have HM := Lib.hid (isK_alt k1 k2 (l.getD j po0))
      have i0 : (0 : Int) ≤ (j : Int) := by omega
      have i1 : (j : Int) < (n2 : Int) := by omega
      clear hc hb HNo HF
      generalize isK (k1, k2) (l.getD j po0) = im at *
      generalize l.getD j po0 = x at *
      obtain ⟨q1, q2, q3, q4⟩ := x
      dsimp only at a0 a1 a2 a3 HM
      have hE := fun w => run_equalKy w q1 q2 k1 k2 _ HM.out
      have HN1 : Hid (w.heap.size + 1 + 1 < wr.heap.size) := HZ.out.lt
      have HYN := Lib.hid (HY.out.keep (grew_alloc wr #[.int .i64 q1, .int .i64 q2, .int .i64 q3, .int .i64 q4] 31))
      have y0 : (wr.alloc (.cells #[.int .i64 q1, .int .i64 q2, .int .i64 q3, .int .i64 q4] 31)).cell? ⟨w.heap.size + 1, 0, none⟩ = some (.int .i64 k1) := HYN.out.at 0 _ rfl
      have y1 : (wr.alloc (.cells #[.int .i64 q1, .int .i64 q2, .int .i64 q3, .int .i64 q4] 31)).cell? ⟨w.heap.size + 1, 1, none⟩ = some (.int .i64 k2) := HYN.out.at 1 _ rfl
      have HGA : Hid (Grew w (wr.alloc (.cells #[.int .i64 q1, .int .i64 q2, .int .i64 q3, .int .i64 q4] 31))) := grew_trans HGW.out (grew_alloc _ _ _)
      have HGB : Hid (Grew w0 (wr.alloc (.cells #[.int .i64 q1, .int .i64 q2, .int .i64 q3, .int .i64 q4] 31))) := grew_trans HG.out (grew_alloc _ _ _)
      have HZN := Lib.hid (HZ.out.keep (grew_alloc wr #[.int .i64 q1, .int .i64 q2, .int .i64 q3, .int .i64 q4] 31))
      have HPN := Lib.hid (OwnC.new wr [.int .i64 q1, .int .i64 q2, .int .i64 q3, .int .i64 q4] 31 _ rfl)
      clear HM
      cases im
      · have HK2 := Lib.hid (HK1.out rfl)
        clear HF1 HK1
        go_wp2
        go_roundw
        case rel => exact ⟨j + 1, by go_num, by omega, HK2.out, HGB.out⟩
        case measure => simp only [intOf]; omega
      · have HR := Lib.hid (HF1.out rfl)
        clear HF1 HK1 HYN
        go_upto_region 5 with fail
        generalize wr.alloc (.cells #[.int .i64 q1, .int .i64 q2, .int .i64 q3, .int .i64 q4] 31) = w8 at *
        have p0 : w8.cell? ⟨wr.heap.size, 0, none⟩ = some (.int .i64 q1) := HPN.out.at 0 _ rfl
        have p1 : w8.cell? ⟨wr.heap.size, 1, none⟩ = some (.int .i64 q2) := HPN.out.at 1 _ rfl
        have p2 : w8.cell? ⟨wr.heap.size, 2, none⟩ = some (.int .i64 q3) := HPN.out.at 2 _ rfl
        have p3 : w8.cell? ⟨wr.heap.size, 3, none⟩ = some (.int .i64 q4) := HPN.out.at 3 _ rfl
        have z0 : w8.cell? ⟨w.heap.size + 1 + 1, 0, none⟩ = some (.int .i64 0) := HZN.out.at 0 _ rfl
        have z1 : w8.cell? ⟨w.heap.size + 1 + 1, 1, none⟩ = some (.int .i64 0) := HZN.out.at 1 _ rfl
        have z2 : w8.cell? ⟨w.heap.size + 1 + 1, 2, none⟩ = some (.int .i64 0) := HZN.out.at 2 _ rfl
        have z3 : w8.cell? ⟨w.heap.size + 1 + 1, 3, none⟩ = some (.int .i64 0) := HZN.out.at 3 _ rfl
        have f0 : w8.frozen? ⟨w.heap.size + 1 + 1, 0, none⟩ = false := HZN.out.fr 0 (by decide)
        have f1 : w8.frozen? ⟨w.heap.size + 1 + 1, 1, none⟩ = false := HZN.out.fr 1 (by decide)
        have f2 : w8.frozen? ⟨w.heap.size + 1 + 1, 2, none⟩ = false := HZN.out.fr 2 (by decide)
        have f3 : w8.frozen? ⟨w.heap.size + 1 + 1, 3, none⟩ = false := HZN.out.fr 3 (by decide)
        go_wp2
        have HP := HZN.out.all [.int .i64 q1, .int .i64 q2, .int .i64 q3, .int .i64 q4] rfl
        have HGP := grew_put (w := w) (w.heap.size + 1 + 1) (by omega) [.int .i64 q1, .int .i64 q2, .int .i64 q3, .int .i64 q4] 0 _ HGA.out
        change bodyPost _ _ _ _ _ (putC w8 (w.heap.size + 1 + 1) 0 [.int .i64 q1, .int .i64 q2, .int .i64 q3, .int .i64 q4])
        clear z0 z1 z2 z3
        generalize putC w8 (w.heap.size + 1 + 1) 0 [.int .i64 q1, .int .i64 q2, .int .i64 q3, .int .i64 q4] = w9 at *
        have z0 : w9.cell? ⟨w.heap.size + 1 + 1, 0, none⟩ = _ := HP.at 0 _ rfl
        have z1 : w9.cell? ⟨w.heap.size + 1 + 1, 1, none⟩ = _ := HP.at 1 _ rfl
        have z2 : w9.cell? ⟨w.heap.size + 1 + 1, 2, none⟩ = _ := HP.at 2 _ rfl
        have z3 : w9.cell? ⟨w.heap.size + 1 + 1, 3, none⟩ = _ := HP.at 3 _ rfl
        refine bodyPost_ret (v := .agg #[.int .i64 q1, .int .i64 q2, .int .i64 q3, .int .i64 q4]) (by simp [results, Tryz.results15, go_sem, z0, z1, z2, z3]) rfl ?_
        rw [HR.out]
        exact ⟨rfl, HGP⟩
    · obtain rfl : j = n2 := by omega
      have HR := Lib.hid (HNo.out (fun i hi => HK.out i (by rw [HL.out] at hi; exact hi)))
      have y0 : wr.cell? ⟨w.heap.size + 1, 0, none⟩ = some (.int .i64 k1) := HY.out.at 0 _ rfl
      have y1 : wr.cell? ⟨w.heap.size + 1, 1, none⟩ = some (.int .i64 k2) := HY.out.at 1 _ rfl
      have z0 : wr.cell? ⟨w.heap.size + 1 + 1, 0, none⟩ = some (.int .i64 0) := HZ.out.at 0 _ rfl
      have z1 : wr.cell? ⟨w.heap.size + 1 + 1, 1, none⟩ = some (.int .i64 0) := HZ.out.at 1 _ rfl
      have z2 : wr.cell? ⟨w.heap.size + 1 + 1, 2, none⟩ = some (.int .i64 0) := HZ.out.at 2 _ rfl
      have z3 : wr.cell? ⟨w.heap.size + 1 + 1, 3, none⟩ = some (.int .i64 0) := HZ.out.at 3 _ rfl
      have f0 : wr.frozen? ⟨w.heap.size + 1 + 1, 0, none⟩ = false := HZ.out.fr 0 (by decide)
      have f1 : wr.frozen? ⟨w.heap.size + 1 + 1, 1, none⟩ = false := HZ.out.fr 1 (by decide)
      have f2 : wr.frozen? ⟨w.heap.size + 1 + 1, 2, none⟩ = false := HZ.out.fr 2 (by decide)
      have f3 : wr.frozen? ⟨w.heap.size + 1 + 1, 3, none⟩ = false := HZ.out.fr 3 (by decide)
      clear HF HNo HK
      go_wp2
      have HP := HZ.out.all [.int .i64 k1, .int .i64 k2, .int .i64 0, .int .i64 0] rfl
      have HGP := grew_put (w := w) (w.heap.size + 1 + 1) (by omega) [.int .i64 k1, .int .i64 k2, .int .i64 0, .int .i64 0] 0 _ HGW.out
      change bodyPost _ _ _ _ _ (putC wr (w.heap.size + 1 + 1) 0 [.int .i64 k1, .int .i64 k2, .int .i64 0, .int .i64 0])
      clear z0 z1 z2 z3
      generalize putC wr (w.heap.size + 1 + 1) 0 [.int .i64 k1, .int .i64 k2, .int .i64 0, .int .i64 0] = w9 at *
      have z0 : w9.cell? ⟨w.heap.size + 1 + 1, 0, none⟩ = _ := HP.at 0 _ rfl
      have z1 : w9.cell? ⟨w.heap.size + 1 + 1, 1, none⟩ = _ := HP.at 1 _ rfl
      have z2 : w9.cell? ⟨w.heap.size + 1 + 1, 2, none⟩ = _ := HP.at 2 _ rfl
      have z3 : w9.cell? ⟨w.heap.size + 1 + 1, 3, none⟩ = _ := HP.at 3 _ rfl
      refine bodyPost_ret (v := .agg #[.int .i64 k1, .int .i64 k2, .int .i64 0, .int .i64 0]) (by simp [results, Tryz.results15, go_sem, z0, z1, z2, z3]) rfl ?_
      rw [HR.out]
      exact ⟨rfl, HGP⟩
end Go.Proofs.YtahioajpmlochaaGreat.NumK
namespace Go.Proofs.YtahioajpmlochaaGreat.NumK
open Go.RowKit
set_option linter.unusedVariables false

theorem fok_not (l : List Po) (p : Po → Bool) (j : Nat) (h : j < l.length) (hp : p (l.getD j po0) = true) (hx : okAm (l.getD j po0) = false) : (l.filter p).all okAm = false := by
  rw [List.all_eq_false]
  exact ⟨_, List.mem_filter.2 ⟨getD_mem l po0 j h, hp⟩, by rw [hx]; decide⟩

set_option maxRecDepth 100000 in
set_option maxHeartbeats 4000000 in
theorem rboth_any (b : Bk) (A1 A2 : Option Addr) (n1 n2 c1 c2 : Nat) (m : Int) (w : World) (h : InB w b A1 A2 n1 n2 c1 c2) (hn : n2 ≤ 100000) :
    Calls Tryz.prog 10 #[vBk b.1 A1 A2 n1 n2 c1 c2, .int .i64 m] w fun e w' => e = .returned (.tuple #[.int .i64 (bothQ b.2.2 m), .int .i64 (bothC b.2.2 m)]) ∧ Grew w w' := by
  have HI := Lib.hid h.p
  have HL := Lib.hid h.p.len
  obtain ⟨e1, e2⟩ := both_sum b.2.2 m
  rw [e1, e2]
  clear h e1 e2
  dsimp only [vBk]
  generalize b.1 = nx at *
  generalize b.2.2 = l at *
  have HN : Hid ((l.filter (isI m)).all okAm = false → sumPQ (l.filter (isI m)) = 0 ∧ sumPC (l.filter (isI m)) = 0) := fun h => (sumP_arg h).2
  have HB : Hid ((l.filter (isI m)).all okAm = true → (isMoney (qtys (l.filter (isI m))).sum && isMoney (csts (l.filter (isI m))).sum) = false → sumPQ (l.filter (isI m)) = 0 ∧ sumPC (l.filter (isI m)) = 0) := fun h h2 => (sumP_big h h2).2
  have HY : Hid ((l.filter (isI m)).all okAm = true → isMoney (qtys (l.filter (isI m))).sum = true → isMoney (csts (l.filter (isI m))).sum = true → sumPQ (l.filter (isI m)) = (qtys (l.filter (isI m))).sum ∧ sumPC (l.filter (isI m)) = (csts (l.filter (isI m))).sum) := fun h h2 h3 => (sumP_ok h h2 h3).2
  generalize sumPQ (l.filter (isI m)) = RQ at *
  generalize sumPC (l.filter (isI m)) = RC at *
  have HX0 : Hid (OwnC (w.alloc (.cells #[.int .i64 nx, .slice A1 n1 c1, .slice A2 n2 c2] 28)) w.heap.size [.int .i64 nx, .slice A1 n1 c1, .slice A2 n2 c2]) := OwnC.new w [.int .i64 nx, .slice A1 n1 c1, .slice A2 n2 c2] _ _ rfl
  have HG0 : Hid (Grew w (w.alloc (.cells #[.int .i64 nx, .slice A1 n1 c1, .slice A2 n2 c2] 28))) := grew_alloc _ _ _
  go_enter Tryz.func10, Tryz.ntmps10
  go_upto_region 1 with fail
  generalize w.alloc (.cells #[.int .i64 nx, .slice A1 n1 c1, .slice A2 n2 c2] 28) = wA at *
  go_wp2
  go_loopw [6, 7, 8] (fun va vb vi wr => ∃ j : Nat, vi = .int .i64 j ∧ j ≤ n2 ∧ Hid (((l.take j).filter (isI m)).all okAm = true) ∧ Hid (Two enInt enInt wr wA.heap.size 3 3 va vb (qtys ((l.take j).filter (isI m))) (csts ((l.take j).filter (isI m)))) ∧ Hid (Grew wA wr)) (fun _ _ vi _ => n2 - (intOf vi).toNat)
  case atStart => exact ⟨0, rfl, by omega, rfl, Two.nil _ _ _ _ _ _, grew_refl _⟩
  case round =>
    obtain ⟨j, rfl, hj, HM, HT, HG⟩ := hrel
    have HX := Lib.hid (HX0.out.keep HG.out)
    have x2 : wr.cell? ⟨w.heap.size, 2, none⟩ = some (.slice A2 n2 c2) := HX.out.at 2 _ rfl
    have HGW := Lib.hid (grew_trans HG0.out HG.out)
    by_cases hlt : j < n2
    · have hjl : j < l.length := by rw [HL.out]; exact hlt
      obtain ⟨bb, o, rfl, hb, hc⟩ := HI.out.po hlt
      have HCP : Hid (∀ w', Grew w w' → CPo w' bb (o + j * 4) (l.getD j po0)) := fun w' g => (hc j hlt).keep g hb
      obtain ⟨a0, a1, a2, a3⟩ := HCP.out _ HGW.out
      clear hc
      have HS := Lib.hid (filter_take_succ (isI m) l po0 j hjl)
      have HXX := Lib.hid (fok_not l (isI m) j hjl)
      have HO : Hid (okAm (l.getD j po0) = (isMoney (l.getD j po0).2.2.1 && isMoney (l.getD j po0).2.2.2)) := rfl
      have HIM : Hid (isI m (l.getD j po0) = decide ((l.getD j po0).2.1 = m)) := rfl
      have hlq : (qtys ((l.take j).filter (isI m))).length ≤ j := by rw [qtys_len]; exact filt_len _ _ _
      have hlc : (csts ((l.take j).filter (isI m))).length ≤ j := by rw [csts_len]; exact filt_len _ _ _
      have HLQ := Lib.hid hlq
      have HLC := Lib.hid hlc
      clear hb hlq hlc
      have CR1 := fun w => refRight_any (l.getD j po0).2.2.1 w
      have CR2 := fun w => refRight_any (l.getD j po0).2.2.2 w
      have i0 : (0 : Int) ≤ (j : Int) := by omega
      have i1 : (j : Int) < (n2 : Int) := by omega
      generalize (l.take j).filter (isI m) = lj at *
      have HOKA : Hid (∀ y, l.getD j po0 = y → okAm y = okAm (l.getD j po0)) := fun y hy => by rw [hy]
      generalize okAm (l.getD j po0) = ok at *
      generalize isI m (l.getD j po0) = im at *
      generalize l.getD j po0 = x at *
      obtain ⟨q1, q2, q3, q4⟩ := x
      dsimp only at a0 a1 a2 a3 CR1 CR2 HO HIM
      have HOKX := Lib.hid (HOKA.out _ rfl)
      rw [HO.out] at HOKX
      clear HOKA
      by_cases hm : q2 = m
      · have him : im = true := by rw [HIM.out, decide_eq_true hm]
        subst him
        subst hm
        have HS2 : Hid ((l.take (j + 1)).filter (isI q2) = lj ++ [(q1, q2, q3, q4)]) := HS.out
        clear HS HIM
        generalize isMoney q3 = M1 at *
        generalize isMoney q4 = M2 at *
        cases M1
        · obtain ⟨rfl, rfl⟩ := HN.out (HXX.out rfl (by rw [HO.out]; rfl))
          clear HN HB HY HXX HO HS2
          go_wp2_with (go_at_call 23; ((with_reducible refine (CR1 _).mono ?_); rintro e w1 ⟨rfl, rfl⟩))
          go_ret2
          exact ⟨rfl, HGW.out⟩
        · cases M2
          · obtain ⟨rfl, rfl⟩ := HN.out (HXX.out rfl (by rw [HO.out]; rfl))
            clear HN HB HY HXX HO HS2
            go_wp2_with (first
              | (go_at_call 23; ((with_reducible refine (CR1 _).mono ?_); rintro e w1 ⟨rfl, rfl⟩))
              | (go_at_call 23; ((with_reducible refine (CR2 _).mono ?_); rintro e w1 ⟨rfl, rfl⟩)))
            go_ret2
            exact ⟨rfl, HGW.out⟩
          · have HM2 : Hid (((l.take (j + 1)).filter (isI q2)).all okAm = true) := by
              show _ = _
              rw [HS2.out, List.all_append, HM.out]
              simp only [List.all_cons, List.all_nil, Bool.and_true, Bool.true_and]
              exact HOKX.out
            clear HXX
            have HSQ : Hid (qtys lj ++ [q3] = qtys ((l.take (j + 1)).filter (isI q2))) := by show _ = _; rw [HS2.out]; unfold qtys; rw [List.map_append]; rfl
            have HSC : Hid (csts lj ++ [q4] = csts ((l.take (j + 1)).filter (isI q2))) := by show _ = _; rw [HS2.out]; unfold csts; rw [List.map_append]; rfl
            clear HN HB HY HO HS2 HM
            go_wp2_with (first
              | (go_at_call 23; ((with_reducible refine (CR1 _).mono ?_); rintro e w1 ⟨rfl, rfl⟩))
              | (go_at_call 23; ((with_reducible refine (CR2 _).mono ?_); rintro e w1 ⟨rfl, rfl⟩))
              | (at_builtin; refine (wpList_two (E := enInt) (F := enInt) (s := 3) (t := 3) (base := wA.heap.size) rfl _ _ 56 (.int .i64 0) 8 rfl Tryz.underlying56 info_int1 rfl (HT.out.keep (grew_alloc wr _ _)) rfl _ q3 rfl (RowE.one1 enInt wr q3 _ _ _ rfl rfl) (by have := HLQ.out; unfold maxLen; omega) (by have := HLQ.out; omega) (Nat.le_trans HG.out.size (by simp)) ?_); intro v1 w1 ht hb; have HT1 := Lib.hid ht; have HG1 : Hid (Grew wA w1) := Below.trans (grew_trans HG.out (grew_alloc _ _ _)) hb; have x2b : w1.cell? ⟨w.heap.size, 2, none⟩ = some (.slice (some ⟨bb, o, none⟩) n2 c2) := (HX0.out.keep HG1.out).at 2 _ rfl; have a3b : w1.cell? ⟨bb, o + j * 4 + 3, none⟩ = some (.int .i64 q4) := (HCP.out _ (grew_trans HG0.out HG1.out)).2.2.2; clear ht hb)
              | (at_builtin; refine (wpList_two (E := enInt) (F := enInt) (s := 3) (t := 3) (base := wA.heap.size) rfl _ _ 56 (.int .i64 0) 8 rfl Tryz.underlying56 info_int1 rfl (HT1.out.swap.keep (grew_alloc w1 _ _)) rfl _ q4 rfl (RowE.one1 enInt w1 q4 _ _ _ rfl rfl) (by have := HLC.out; unfold maxLen; omega) (by have := HLC.out; omega) (Nat.le_trans HG1.out.size (by simp)) ?_); intro v2 w2 ht hb; have HT2 := Lib.hid ht.swap; have HG2 : Hid (Grew wA w2) := Below.trans (grew_trans HG1.out (grew_alloc _ _ _)) hb; clear ht hb))
            go_roundw
            case rel => exact ⟨j + 1, by go_num, by omega, HM2.out, (by rw [← HSQ.out, ← HSC.out]; exact HT2.out), HG2.out⟩
            case measure => simp only [intOf]; omega
      · have him : im = false := by rw [HIM.out, decide_eq_false hm]
        subst him
        have HS2 : Hid ((l.take (j + 1)).filter (isI m) = lj) := by show _ = _; rw [HS.out]; simp
        have d0 : (q2 == m) = false := by simpa using hm
        clear HS HIM hm HXX HO HN HB HY
        go_wp2
        go_roundw
        case rel => exact ⟨j + 1, by go_num, by omega, by rw [HS2.out]; exact HM.out, by rw [HS2.out]; exact HT.out, HG.out⟩
        case measure => simp only [intOf]; omega
    · obtain rfl : j = n2 := by omega
      have ht : l.take j = l := List.take_of_length_le (by rw [HL.out]; exact Nat.le_refl _)
      rw [ht] at HM HT
      have hfl : (l.filter (isI m)).length ≤ 100000 := Nat.le_trans (List.length_filter_le _ _) (by rw [HL.out]; exact hn)
      generalize l.filter (isI m) = fl at *
      obtain ⟨A3, c3, hv3, hr3, -, -, -⟩ := HT.out.a.form
      obtain ⟨A4, c4, hv4, hr4, -, -, -⟩ := HT.out.b.form
      rw [qtys_len] at hv3 hr3
      rw [csts_len] at hv4 hr4
      subst hv3 hv4
      have hok := okAm_all fl
      rw [HM.out] at hok
      have hok2 := (Bool.and_eq_true _ _).mp hok.symm
      have CA := add_any A3 _ c3 _ wr (ints_of_E hr3) (money_in _ hok2.1) (by omega)
      have CB := fun w' (g : Grew wr w') => add_any A4 _ c4 _ w' (ints_of_E (hr4.keep g)) (money_in _ hok2.2) (by omega)
      have HB2 := Lib.hid (HB.out HM.out)
      have HY2 := Lib.hid (HY.out HM.out)
      clear HN HB HY hok hok2 hr3 hr4 ht
      have HV1 : Hid (isMoney (qtys fl).sum = true → intV (qtys fl).sum = (qtys fl).sum) := fun h => by unfold intV; rw [if_pos h]
      have HV2 : Hid (isMoney (csts fl).sum = true → intV (csts fl).sum = (csts fl).sum) := fun h => by unfold intV; rw [if_pos h]
      generalize fl.length = nf at *
      generalize (qtys fl).sum = Sq at *
      generalize (csts fl).sum = Sc at *
      generalize intV Sq = Vq at *
      generalize intV Sc = Vc at *
      generalize isMoney Sq = M1 at *
      generalize isMoney Sc = M2 at *
      clear HT
      cases M1
      · obtain ⟨rfl, rfl⟩ := HB2.out rfl
        clear HB2 HY2 HV1 HV2
        go_wp2_with (first
          | (go_at_call 24; ((with_reducible refine CA.mono ?_); rintro e w1 ⟨rfl, hg⟩; have HG1 := Lib.hid hg; clear hg))
          | (go_at_call 24; ((with_reducible refine (CB _ HG1.out).mono ?_); rintro e w2 ⟨rfl, hg⟩; have HG2 := Lib.hid (grew_trans HG1.out hg); clear hg)))
        go_ret2
        exact ⟨rfl, grew_trans HGW.out HG2.out⟩
      · obtain rfl := HV1.out rfl
        cases M2
        · obtain ⟨rfl, rfl⟩ := HB2.out rfl
          clear HB2 HY2 HV1 HV2
          go_wp2_with (first
            | (go_at_call 24; ((with_reducible refine CA.mono ?_); rintro e w1 ⟨rfl, hg⟩; have HG1 := Lib.hid hg; clear hg))
            | (go_at_call 24; ((with_reducible refine (CB _ HG1.out).mono ?_); rintro e w2 ⟨rfl, hg⟩; have HG2 := Lib.hid (grew_trans HG1.out hg); clear hg)))
          go_ret2
          exact ⟨rfl, grew_trans HGW.out HG2.out⟩
        · obtain rfl := HV2.out rfl
          obtain ⟨rfl, rfl⟩ := HY2.out rfl rfl
          clear HB2 HY2 HV1 HV2
          go_wp2_with (first
            | (go_at_call 24; ((with_reducible refine CA.mono ?_); rintro e w1 ⟨rfl, hg⟩; have HG1 := Lib.hid hg; clear hg))
            | (go_at_call 24; ((with_reducible refine (CB _ HG1.out).mono ?_); rintro e w2 ⟨rfl, hg⟩; have HG2 := Lib.hid (grew_trans HG1.out hg); clear hg)))
          go_ret2
          exact ⟨rfl, grew_trans HGW.out HG2.out⟩
end Go.Proofs.YtahioajpmlochaaGreat.NumK
namespace Go.Proofs.YtahioajpmlochaaGreat.NumK
open Go.RowKit
set_option linter.unusedVariables false

theorem othP_take (l : List Po) (n q : Int) (i : Nat) (h : i < l.length) : othP (l.take (i + 1)) n q = othP (l.take i) n q ++ (if (l.getD i po0).2.1 = n ∧ oppB q (l.getD i po0).2.2.1 = true then [l.getD i po0] else []) := by
  unfold othP
  rw [List.take_succ_eq_append_getElem h, List.filter_append, getD_at l po0 i h]
  congr 1
  by_cases c1 : l[i].2.1 = n <;> by_cases c2 : oppB q l[i].2.2.1 = true
  · rw [if_pos ⟨c1, c2⟩, List.filter_cons, if_pos (by simp [c1, c2])]; rfl
  · rw [if_neg (fun h => c2 h.2), List.filter_cons, if_neg (by simp [c2])]; rfl
  · rw [if_neg (fun h => c1 h.1), List.filter_cons, if_neg (by simp [c1])]; rfl
  · rw [if_neg (fun h => c1 h.1), List.filter_cons, if_neg (by simp [c1])]; rfl
theorem othP_len (l : List Po) (n q : Int) : (othP l n q).length ≤ l.length := List.length_filter_le _ _

set_option maxRecDepth 100000 in
set_option maxHeartbeats 8000000 in
theorem against_any (A : Option Addr) (n c : Nat) (l : List Po) (x : Po) (w : World) (h : RowE enPo w A n l) (hn : n ≤ 100000) :
    Calls Tryz.prog 14 #[.slice A n c, vPo x] w fun e w' => ∃ v, e = .returned v ∧ OwnE enPo w' w.heap.size 31 v (othP l x.2.1 x.2.2.1) ∧ Grew w w' := by
  have HI := Lib.hid h
  have HL := Lib.hid h.len
  clear h
  obtain ⟨x1, x2, x3, x4⟩ := x
  dsimp only [vPo]
  have HX0 : Hid (OwnC (w.alloc (.cells #[.int .i64 x1, .int .i64 x2, .int .i64 x3, .int .i64 x4] 31)) w.heap.size [.int .i64 x1, .int .i64 x2, .int .i64 x3, .int .i64 x4]) := OwnC.new w [.int .i64 x1, .int .i64 x2, .int .i64 x3, .int .i64 x4] _ _ rfl
  have HG0 : Hid (Grew w (w.alloc (.cells #[.int .i64 x1, .int .i64 x2, .int .i64 x3, .int .i64 x4] 31))) := grew_alloc _ _ _
  go_enter Tryz.func14, Tryz.ntmps14
  go_upto_region 1 with (fail)
  generalize w.alloc (.cells #[.int .i64 x1, .int .i64 x2, .int .i64 x3, .int .i64 x4] 31) = w0 at *
  have HNS : Hid (w.heap.size ≤ w0.heap.size) := HG0.out.size
  generalize hN0 : w.heap.size = N0 at *
  have HN0 := Lib.hid hN0
  clear hN0
  go_wp2
  go_loopw [5, 7, 10] (fun v5 v7 v10 wr => ∃ j : Nat, v10 = .int .i64 j ∧ j ≤ n ∧ Hid (OwnE enPo wr w0.heap.size 31 v5 (othP (l.take j) x2 x3)) ∧ Hid (Grew w0 wr)) (fun _ _ v10 _ => n - (intOf v10).toNat)
  case atStart => exact ⟨0, rfl, by omega, OwnE.nil _ _ _ _, grew_refl _⟩
  case round =>
    obtain ⟨j, rfl, hj, HT, HG⟩ := hrel
    by_cases hlt : j < n
    · obtain ⟨b, o, rfl, hb, hc⟩ := (HI.out.keep (grew_trans HG0.out HG.out)).po hlt
      obtain ⟨a0, a1, a2, a3⟩ := hc j hlt
      have HST := Lib.hid (othP_take l x2 x3 j (by rw [HL.out]; exact hlt))
      have HLL : Hid ((othP (l.take j) x2 x3).length ≤ 100000) := by show _ ≤ _; have := othP_len (l.take j) x2 x3; rw [List.length_take] at this; omega
      have i0 : (0 : Int) ≤ (j : Int) := by omega
      have i1 : (j : Int) < (n : Int) := by omega
      clear hc hb
      generalize l.getD j po0 = y at *
      obtain ⟨y1, y2, y3, y4⟩ := y
      dsimp only at a0 a1 a2 a3 HST
      have HY0 : Hid (OwnC (wr.alloc (.cells #[.int .i64 y1, .int .i64 y2, .int .i64 y3, .int .i64 y4] 31)) wr.heap.size [.int .i64 y1, .int .i64 y2, .int .i64 y3, .int .i64 y4]) := OwnC.new wr [.int .i64 y1, .int .i64 y2, .int .i64 y3, .int .i64 y4] _ _ rfl
      have HT1 := Lib.hid (HT.out.keep (grew_alloc wr #[.int .i64 y1, .int .i64 y2, .int .i64 y3, .int .i64 y4] 31))
      have HG1 := Lib.hid (grew_trans HG.out (grew_alloc wr #[.int .i64 y1, .int .i64 y2, .int .i64 y3, .int .i64 y4] 31))
      have HX1 := Lib.hid (HX0.out.keep HG1.out)
      go_upto_region 5 with (fail)
      generalize (wr.alloc (.cells #[.int .i64 y1, .int .i64 y2, .int .i64 y3, .int .i64 y4] 31)) = w1 at *
      generalize wr.heap.size = N1 at *
      have u0 := HY0.out.at 0 _ rfl
      have u1 := HY0.out.at 1 _ rfl
      have u2 := HY0.out.at 2 _ rfl
      have u3 := HY0.out.at 3 _ rfl
      have z1 := HX1.out.at 1 _ rfl
      have z2 := HX1.out.at 2 _ rfl
      clear HT HG HY0 a0 a1 a2 a3
      by_cases c1 : y2 = x2
      · subst c1
        have d1 : (y2 == y2) = true := by simp
        rcases Int.lt_trichotomy x3 0 with hs | hs | hs
        · have d2 : ¬ x3 > 0 := by omega
          have d21 : ¬ 0 < x3 := by omega
          by_cases hy : 0 < y3
          · have d3 : y3 > 0 := hy
            have HF : Hid (othP (l.take (j + 1)) y2 x3 = othP (l.take j) y2 x3 ++ [(y1, y2, y3, y4)]) := by show _ = _; rw [HST.out, if_pos ⟨rfl, by unfold oppB; simp; omega⟩]
            clear HST
            go_wp2_with (at_builtin; refine (wpList_append_E rfl _ _ 26 31 (vPo po0) 32 rfl Tryz.underlying26 info_po rfl w0.heap.size _ _ rfl (HT1.out.keep (grew_alloc _ _ _)) (some ⟨w1.heap.size, 0, none⟩) 1 1 [(y1, y2, y3, y4)] rfl (by intro h; cases h) (RowE.one enPo w1 (y1, y2, y3, y4) 31 _ rfl) (by have := HLL.out; unfold maxLen; omega) (by have := HLL.out; omega) (Nat.le_trans (grew_size HG1.out) (by simp)) ?_); intro v' w6 ho hb; have HO6 := Lib.hid ho; have HG6 : Hid (Grew w0 w6) := Below.trans (grew_trans HG1.out (grew_alloc _ _ _)) hb; clear ho hb)
            go_roundw
            case rel => exact ⟨j + 1, by go_num, by omega, by rw [HF.out]; exact HO6.out, HG6.out⟩
            case measure => simp only [intOf]; omega
          · have d3 : ¬ y3 > 0 := hy
            have d31 : y3 ≤ 0 := by omega
            have HF : Hid (othP (l.take (j + 1)) y2 x3 = othP (l.take j) y2 x3) := by show _ = _; rw [HST.out, if_neg (fun h => by have := h.2; unfold oppB at this; simp at this; omega), List.append_nil]
            clear HST
            go_wp2_with (fail)
            go_roundw
            case rel => exact ⟨j + 1, by go_num, by omega, by rw [HF.out]; exact HT1.out, HG1.out⟩
            case measure => simp only [intOf]; omega
        · subst hs
          have HF : Hid (othP (l.take (j + 1)) y2 0 = othP (l.take j) y2 0) := by show _ = _; rw [HST.out, if_neg (fun h => by have := h.2; unfold oppB at this; simp at this), List.append_nil]
          clear HST
          go_wp2_with (fail)
          go_roundw
          case rel => exact ⟨j + 1, by go_num, by omega, by rw [HF.out]; exact HT1.out, HG1.out⟩
          case measure => simp only [intOf]; omega
        · have d2 : x3 > 0 := hs
          have d22 : ¬ x3 < 0 := by omega
          by_cases hy : y3 < 0
          · have HF : Hid (othP (l.take (j + 1)) y2 x3 = othP (l.take j) y2 x3 ++ [(y1, y2, y3, y4)]) := by show _ = _; rw [HST.out, if_pos ⟨rfl, by unfold oppB; simp; omega⟩]
            clear HST
            go_wp2_with (at_builtin; refine (wpList_append_E rfl _ _ 26 31 (vPo po0) 32 rfl Tryz.underlying26 info_po rfl w0.heap.size _ _ rfl (HT1.out.keep (grew_alloc _ _ _)) (some ⟨w1.heap.size, 0, none⟩) 1 1 [(y1, y2, y3, y4)] rfl (by intro h; cases h) (RowE.one enPo w1 (y1, y2, y3, y4) 31 _ rfl) (by have := HLL.out; unfold maxLen; omega) (by have := HLL.out; omega) (Nat.le_trans (grew_size HG1.out) (by simp)) ?_); intro v' w6 ho hb; have HO6 := Lib.hid ho; have HG6 : Hid (Grew w0 w6) := Below.trans (grew_trans HG1.out (grew_alloc _ _ _)) hb; clear ho hb)
            go_roundw
            case rel => exact ⟨j + 1, by go_num, by omega, by rw [HF.out]; exact HO6.out, HG6.out⟩
            case measure => simp only [intOf]; omega
          · have d3 : ¬ y3 < 0 := hy
            have d31 : 0 ≤ y3 := by omega
            have HF : Hid (othP (l.take (j + 1)) y2 x3 = othP (l.take j) y2 x3) := by show _ = _; rw [HST.out, if_neg (fun h => by have := h.2; unfold oppB at this; simp at this; omega), List.append_nil]
            clear HST
            go_wp2_with (fail)
            go_roundw
            case rel => exact ⟨j + 1, by go_num, by omega, by rw [HF.out]; exact HT1.out, HG1.out⟩
            case measure => simp only [intOf]; omega
      · have d1 : (y2 == x2) = false := by simpa using c1
        have HF : Hid (othP (l.take (j + 1)) x2 x3 = othP (l.take j) x2 x3) := by show _ = _; rw [HST.out, if_neg (fun h => c1 h.1), List.append_nil]
        clear HST c1
        go_wp2_with (fail)
        go_roundw
        case rel => exact ⟨j + 1, by go_num, by omega, by rw [HF.out]; exact HT1.out, HG1.out⟩
        case measure => simp only [intOf]; omega
    · obtain rfl : j = n := by omega
      have HTF : Hid (l.take j = l) := List.take_of_length_le (by rw [HL.out]; exact Nat.le_refl _)
      rw [HTF.out] at HT
      go_wp2_with (fail)
      go_ret
      refine ⟨_, rfl, ?_, grew_trans HG0.out HG.out⟩
      have h9 := HT.out.mono HNS.out
      first | exact h9 | (rw [← HN0.out] at h9; exact h9)
end Go.Proofs.YtahioajpmlochaaGreat.NumK
