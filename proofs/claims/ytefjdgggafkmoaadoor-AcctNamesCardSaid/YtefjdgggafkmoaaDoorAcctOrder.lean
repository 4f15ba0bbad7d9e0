/- The law AcctOrder. -/
import Derived.Test.YtefjdgggafkmoaaDoorAcctExact
namespace Go.Proofs.YtefjdgggafkmoaaDoor.NumK
open Go.RowKit

theorem lessA_self (k m c : Int) : lessA k m c k m c = false := by simp [lessA]
theorem lessA_iff (k m c k' m' c' : Int) : lessA k m c k' m' c' = true ↔ k < k' ∨ (k = k' ∧ (m < m' ∨ (m = m' ∧ c < c'))) := by
  unfold lessA
  split
  · split
    · simp; omega
    · simp; omega
  · simp; omega
theorem less_tri (k m c k' m' c' : Int) (h : ¬ (k = k' ∧ m = m' ∧ c = c')) : (lessA k m c k' m' c' = true ∧ lessA k' m' c' k m c = false) ∨ (lessA k m c k' m' c' = false ∧ lessA k' m' c' k m c = true) := by
  have h1 := lessA_iff k m c k' m' c'
  have h2 := lessA_iff k' m' c' k m c
  cases e1 : lessA k m c k' m' c' <;> cases e2 : lessA k' m' c' k m c <;> simp [e1, e2] at h1 h2 ⊢ <;> omega
theorem less_trans (k m c k' m' c' k2 m2 c2 : Int) (h1 : lessA k m c k' m' c' = true) (h2 : lessA k' m' c' k2 m2 c2 = true) : lessA k m c k2 m2 c2 = true := by
  rw [lessA_iff] at *
  omega

theorem C3.three {w w' : World} {x y z x' y' z' x2 y2 z2 : Value} {t t' t2 : TypeId} (g : Grew (((w.alloc (.cells #[x, y, z] t)).alloc (.cells #[x', y', z'] t')).alloc (.cells #[x2, y2, z2] t2)) w') :
    C3 w' w.heap.size x y z ∧ C3 w' (w.heap.size + 1) x' y' z' ∧ C3 w' (w.heap.size + 1 + 1) x2 y2 z2 :=
  ⟨(C3.two (own_back g)).1, (C3.two (own_back g)).2, by have := C3.of g; simpa using this⟩

theorem wp_letter {P : Program} {c : Code} {Q : Exit → Act → World → Prop} {a : Act} {W : World} (X : World → Prop) (h : X W) (k : ∀ W0, X W0 → c.wp P Q a W0) : c.wp P Q a W := k W h
structure OrdOK (x1 x2 x3 x4 sm : Bool) : Prop where
  a : (x1 && x2) = false
  b : (!x1 && !x2) = sm
  c : (x1 && x3 && !x4) = false

theorem ord_ok (k m c k' m' c' k2 m2 c2 : Int) : OrdOK (lessA k m c k' m' c') (lessA k' m' c' k m c) (lessA k' m' c' k2 m2 c2) (lessA k m c k2 m2 c2) (decide (k = k' ∧ m = m' ∧ c = c')) := by
  have h3 : lessA k m c k' m' c' = true → lessA k' m' c' k2 m2 c2 = true → lessA k m c k2 m2 c2 = true := less_trans k m c k' m' c' k2 m2 c2
  by_cases h : k = k' ∧ m = m' ∧ c = c'
  · have e := decide_eq_true h
    obtain ⟨rfl, rfl, rfl⟩ := h
    rw [e, lessA_self]
    exact ⟨rfl, rfl, rfl⟩
  · rw [decide_eq_false h]
    rcases less_tri k m c k' m' c' h with ⟨e1, e2⟩ | ⟨e1, e2⟩
    · rw [e1] at h3 ⊢
      rw [e2]
      refine ⟨rfl, rfl, ?_⟩
      cases e3 : lessA k' m' c' k2 m2 c2
      · rfl
      · rw [h3 rfl e3]; rfl
    · rw [e1, e2]
      exact ⟨rfl, rfl, rfl⟩

set_option maxRecDepth 100000 in
set_option maxHeartbeats 2000000 in
theorem acctOrder_walk (k m c k' m' c' k2 m2 c2 : Int) (w : World) :
    Calls Tryd.prog 7 #[acV k m c, acV k' m' c', acV k2 m2 c2] w fun e w' => e = .returned (.bool true) ∧ Grew w w' := by
  have HO := ord_ok k m c k' m' c' k2 m2 c2
  have L1 := fun w => less_any k m c k' m' c' w
  have L2 := fun w => less_any k' m' c' k m c w
  have L3 := fun w => less_any k' m' c' k2 m2 c2 w
  have L4 := fun w => less_any k m c k2 m2 c2 w
  have R1 := fun w => right_any k m c w
  have F1 := fun w => floor_any k m c w
  have WK := fun w => wakes08_any w
  have HF : Hid (floorA k m c = if rightA k m c && (decide (k = 3) || decide (k = 4)) then 0 else -4611686018427387904) := rfl
  unfold acV at *
  generalize lessA k m c k' m' c' = x1 at *
  generalize lessA k' m' c' k m c = x2 at *
  generalize lessA k' m' c' k2 m2 c2 = x3 at *
  generalize lessA k m c k2 m2 c2 = x4 at *
  generalize rightA k m c = r at *
  generalize floorA k m c = fl at *
  have HQ := Lib.hid HO
  clear HO
  go_enter Tryd.func7, Tryd.ntmps7
  go_upto_region 1 with (fail)
  refine wp_letter (fun W => (C3 W w.heap.size (.int .i64 k) (.int .i64 m) (.int .i64 c) ∧ C3 W (w.heap.size + 1) (.int .i64 k') (.int .i64 m') (.int .i64 c') ∧ C3 W (w.heap.size + 1 + 1) (.int .i64 k2) (.int .i64 m2) (.int .i64 c2)) ∧ Grew w W) ⟨C3.three (grew_refl _), grew_trans (grew_trans (grew_alloc _ _ _) (grew_alloc _ _ _)) (grew_alloc _ _ _)⟩ ?_
  rintro W0 ⟨⟨ka, kb, kd⟩, hg⟩
  have KA := Lib.hid ka
  have KB := Lib.hid kb
  have KC := Lib.hid kd
  have HG := Lib.hid hg
  clear ka kb kd hg
  have a0 := KA.out.c0
  have a1 := KA.out.c1
  have a2 := KA.out.c2
  have b0 := KB.out.c0
  have b1 := KB.out.c1
  have b2 := KB.out.c2
  have d0 := KC.out.c0
  have d1 := KC.out.c1
  have d2 := KC.out.c2
  go_cut [7] from 8 to 26 (fun s7 wx => s7 = .bool (decide (k = k' ∧ m = m' ∧ c = c')) ∧ W0 = wx)
  case first =>
    by_cases hk : k = k'
    · subst hk
      by_cases hm : m = m'
      · subst hm
        have E : Hid (decide (k = k ∧ m = m ∧ c = c') = (c == c')) := by show _ = _; rw [Bool.eq_iff_iff]; simp
        go_wp2
        go_meet
        case rel => exact ⟨congrArg Value.bool E.out.symm, rfl⟩
      · have d : (m == m') = false := by simpa using hm
        have E : Hid (decide (k = k ∧ m = m' ∧ c = c') = false) := by show _ = _; simp [hm]
        clear hm
        go_wp2
        go_meet
        case rel => exact ⟨congrArg Value.bool E.out.symm, rfl⟩
    · have d : (k == k') = false := by simpa using hk
      have E : Hid (decide (k = k' ∧ m = m' ∧ c = c') = false) := by show _ = _; simp [hk]
      clear hk
      go_wp2
      go_meet
      case rel => exact ⟨congrArg Value.bool E.out.symm, rfl⟩
  case rest =>
    obtain ⟨rfl, rfl⟩ := hcut
    generalize decide (k = k' ∧ m = m' ∧ c = c') = sm at *
    go_upto_region 2 with (fail)
    go_cut [64] from 27 to 64 (fun s64 wx => s64 = .bool false ∧ Hid (C3 wx w.heap.size (.int .i64 k) (.int .i64 m) (.int .i64 c)) ∧ Hid (Grew w wx))
    case first =>
      obtain ⟨q1, q2, q3⟩ := HQ.out
      clear R1 F1 WK HF HQ
      cases x1 <;> cases x2 <;> cases x3 <;> cases x4 <;> cases sm <;> simp only [Bool.and_true, Bool.and_false, Bool.not_true, Bool.not_false, reduceCtorEq] at q1 q2 q3
      all_goals go_wp2_with (first
        | (go_at_call 12; ((with_reducible refine (L1 _).mono ?_); rintro e w9 ⟨rfl, hg⟩; have KA := Lib.hid (KA.out.keep hg); have KB := Lib.hid (KB.out.keep hg); have KC := Lib.hid (KC.out.keep hg); have HG := Lib.hid (grew_trans HG.out hg); clear hg; have a0 := KA.out.c0; have a1 := KA.out.c1; have a2 := KA.out.c2; have b0 := KB.out.c0; have b1 := KB.out.c1; have b2 := KB.out.c2; have d0 := KC.out.c0; have d1 := KC.out.c1; have d2 := KC.out.c2))
        | (go_at_call 12; ((with_reducible refine (L2 _).mono ?_); rintro e w9 ⟨rfl, hg⟩; have KA := Lib.hid (KA.out.keep hg); have KB := Lib.hid (KB.out.keep hg); have KC := Lib.hid (KC.out.keep hg); have HG := Lib.hid (grew_trans HG.out hg); clear hg; have a0 := KA.out.c0; have a1 := KA.out.c1; have a2 := KA.out.c2; have b0 := KB.out.c0; have b1 := KB.out.c1; have b2 := KB.out.c2; have d0 := KC.out.c0; have d1 := KC.out.c1; have d2 := KC.out.c2))
        | (go_at_call 12; ((with_reducible refine (L3 _).mono ?_); rintro e w9 ⟨rfl, hg⟩; have KA := Lib.hid (KA.out.keep hg); have KB := Lib.hid (KB.out.keep hg); have KC := Lib.hid (KC.out.keep hg); have HG := Lib.hid (grew_trans HG.out hg); clear hg; have a0 := KA.out.c0; have a1 := KA.out.c1; have a2 := KA.out.c2; have b0 := KB.out.c0; have b1 := KB.out.c1; have b2 := KB.out.c2; have d0 := KC.out.c0; have d1 := KC.out.c1; have d2 := KC.out.c2))
        | (go_at_call 12; ((with_reducible refine (L4 _).mono ?_); rintro e w9 ⟨rfl, hg⟩; have KA := Lib.hid (KA.out.keep hg); have KB := Lib.hid (KB.out.keep hg); have KC := Lib.hid (KC.out.keep hg); have HG := Lib.hid (grew_trans HG.out hg); clear hg; have a0 := KA.out.c0; have a1 := KA.out.c1; have a2 := KA.out.c2; have b0 := KB.out.c0; have b1 := KB.out.c1; have b2 := KB.out.c2; have d0 := KC.out.c0; have d1 := KC.out.c1; have d2 := KC.out.c2)))
      all_goals go_meet
      all_goals (case rel => exact ⟨rfl, KA, HG⟩)
    case rest =>
      obtain ⟨rfl, KA1, HG1⟩ := hcut
      clear L1 L2 L3 L4 KA KB KC HG a0 a1 a2 b0 b1 b2 d0 d1 d2 HQ
      have x0 : ∀ p : GrewTo wc, p.to.cell? ⟨w.heap.size, 0, none⟩ = _ := fun p => (KA1.out.keep p.h).c0
      have x1 : ∀ p : GrewTo wc, p.to.cell? ⟨w.heap.size, 1, none⟩ = _ := fun p => (KA1.out.keep p.h).c1
      have x2 : ∀ p : GrewTo wc, p.to.cell? ⟨w.heap.size, 2, none⟩ = _ := fun p => (KA1.out.keep p.h).c2
      go_upto_region 4 with (fail)
      cases r
      · have hfl : fl = -4611686018427387904 := by rw [HF.out]; rfl
        subst hfl
        clear HF
        refine wp_region_grew (by kernel_rfl) (by kernel_rfl) ?_
        repeat (go_big_quiet_step (first | with_reducible exact calls_grew (R1 _) | with_reducible exact calls_grew (F1 _) | with_reducible exact calls_grew (WK _)))
        refine wpQuiet_nil ?_
        intro w9 hw'
        have HG9 := Lib.hid (grew_trans HG1.out (grew_of hw'))
        clear hw' x0 x1 x2
        go_wp2
        go_ret
        exact ⟨rfl, HG9.out⟩
      · by_cases h3 : k = 3
        · subst h3
          have hfl : fl = 0 := by rw [HF.out]; rfl
          subst hfl
          clear HF
          refine wp_region_grew (by kernel_rfl) (by kernel_rfl) ?_
          repeat (go_big_quiet_step (first | with_reducible exact calls_grew (R1 _) | with_reducible exact calls_grew (F1 _) | with_reducible exact calls_grew (WK _)))
          refine wpQuiet_nil ?_
          intro w9 hw'
          have HG9 := Lib.hid (grew_trans HG1.out (grew_of hw'))
          clear hw' x0 x1 x2
          go_wp2
          go_ret
          exact ⟨rfl, HG9.out⟩
        · by_cases h4 : k = 4
          · subst h4
            have hfl : fl = 0 := by rw [HF.out]; rfl
            subst hfl
            clear HF h3
            refine wp_region_grew (by kernel_rfl) (by kernel_rfl) ?_
            repeat (go_big_quiet_step (first | with_reducible exact calls_grew (R1 _) | with_reducible exact calls_grew (F1 _) | with_reducible exact calls_grew (WK _)))
            refine wpQuiet_nil ?_
            intro w9 hw'
            have HG9 := Lib.hid (grew_trans HG1.out (grew_of hw'))
            clear hw' x0 x1 x2
            go_wp2
            go_ret
            exact ⟨rfl, HG9.out⟩
          · have hfl : fl = -4611686018427387904 := by rw [HF.out]; simp [h3, h4]
            subst hfl
            have d3 : (k == 3) = false := by simpa using h3
            have d4 : (k == 4) = false := by simpa using h4
            clear HF h3 h4
            refine wp_region_grew (by kernel_rfl) (by kernel_rfl) ?_
            repeat (go_big_quiet_step (first | with_reducible exact calls_grew (R1 _) | with_reducible exact calls_grew (F1 _) | with_reducible exact calls_grew (WK _)))
            refine wpQuiet_nil ?_
            intro w9 hw'
            have HG9 := Lib.hid (grew_trans HG1.out (grew_of hw'))
            clear hw' x0 x1 x2
            go_wp2
            go_ret
            exact ⟨rfl, HG9.out⟩
end Go.Proofs.YtefjdgggafkmoaaDoor.NumK
