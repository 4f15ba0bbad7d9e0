/- The law AcctExact. -/
import Derived.Test.YtefjdgggafkmoaaDoorAcctH
namespace Go.Proofs.YtefjdgggafkmoaaDoor.NumK
open Go.RowKit

theorem C3.two {w w' : World} {x y z x' y' z' : Value} {t t' : TypeId} (g : Grew ((w.alloc (.cells #[x, y, z] t)).alloc (.cells #[x', y', z'] t')) w') : C3 w' w.heap.size x y z ∧ C3 w' (w.heap.size + 1) x' y' z' :=
  ⟨C3.of (own_back g), by have := C3.of g; simpa using this⟩

set_option maxRecDepth 100000 in
set_option maxHeartbeats 2000000 in
theorem acctExact_walk (k m c k' m' c' : Int) (s : ByteArray) (w : World) (hE : EV w) :
    Calls Tryd.prog 3 #[acV k m c, acV k' m' c', .string s] w fun e w' => e = .returned (.bool true) ∧ Grew w w' := by
  by_cases hs : (1000 : Int) < (s.size : Int)
  · unfold acV
    clear hE
    go_enter Tryd.func3, Tryd.ntmps3
    go_wp2
    go_ret
    exact ⟨rfl, grew_trans (grew_alloc _ _ _) (grew_alloc _ _ _)⟩
  · have R1 := fun w => right_any k m c w
    have R2 := fun w => refRight_any k m c w
    have F1 := fun w => floor_any k m c w
    have F2 := fun w => refFloor_any k m c w
    have L1 := fun w => less_any k m c k' m' c' w
    have L2 := fun w => refLess_any k m c k' m' c' w
    have N1 := fun w => name_any k m c w
    have N2 := fun w => refName_any k m c w
    have P1 := fun w h => parse_any s w h (by omega)
    have P2 := fun w => refParse_any s w
    have WK := fun w => wakes08_any w
    have HE := Lib.hid hE
    have KA := fun w => keepAcct_any (acOf (findA s.data.toList)).1 (acOf (findA s.data.toList)).2.1 (acOf (findA s.data.toList)).2.2 (acOf (findA s.data.toList)).1 (acOf (findA s.data.toList)).2.1 (acOf (findA s.data.toList)).2.2 w
    rw [sameA_iff, decide_eq_true rfl] at KA
    have HOK : Hid ((errOf (findA s.data.toList) = 0 ∧ (findA s.data.toList).isSome = true) ∨ (errOf (findA s.data.toList) = 6 ∧ (findA s.data.toList).isSome = false)) := by
      cases findA s.data.toList
      · exact Or.inr ⟨rfl, rfl⟩
      · exact Or.inl ⟨rfl, rfl⟩
    unfold acV at *
    clear hE
    generalize (acOf (findA s.data.toList)).1 = p0 at *
    generalize (acOf (findA s.data.toList)).2.1 = p1 at *
    generalize (acOf (findA s.data.toList)).2.2 = p2 at *
    generalize errOf (findA s.data.toList) = er at *
    generalize (findA s.data.toList).isSome = so at *
    generalize floorA k m c = fl at *
    generalize lessA k m c k' m' c' = le at *
    cases hr : rightA k m c
    · rw [hr] at R1 R2 N1
      simp only [Bool.false_eq_true, if_false] at N1
      clear hr N2
      go_enter Tryd.func3, Tryd.ntmps3
      go_upto_region 4 with (first
        | (go_at_call 8; ((with_reducible refine (R2 _).mono ?_); rintro e w1 ⟨rfl, hg⟩; obtain ⟨ka, kb⟩ := C3.two hg; have HA := Lib.hid ka; have HB := Lib.hid kb; have HG := Lib.hid (own_back (own_back hg)); clear hg ka kb)))
      have x0 : ∀ p : GrewTo w1, p.to.cell? ⟨w.heap.size, 0, none⟩ = _ := fun p => (HA.out.keep p.h).c0
      have x1 : ∀ p : GrewTo w1, p.to.cell? ⟨w.heap.size, 1, none⟩ = _ := fun p => (HA.out.keep p.h).c1
      have x2 : ∀ p : GrewTo w1, p.to.cell? ⟨w.heap.size, 2, none⟩ = _ := fun p => (HA.out.keep p.h).c2
      have y0 : ∀ p : GrewTo w1, p.to.cell? ⟨w.heap.size + 1, 0, none⟩ = _ := fun p => (HB.out.keep p.h).c0
      have y1 : ∀ p : GrewTo w1, p.to.cell? ⟨w.heap.size + 1, 1, none⟩ = _ := fun p => (HB.out.keep p.h).c1
      have y2 : ∀ p : GrewTo w1, p.to.cell? ⟨w.heap.size + 1, 2, none⟩ = _ := fun p => (HB.out.keep p.h).c2
      refine wp_region_grew (by kernel_rfl) (by kernel_rfl) ?_
      repeat (go_big_quiet_step (first | with_reducible exact calls_grew (R1 _) | with_reducible exact calls_grew (F1 _) | with_reducible exact calls_grew (F2 _) | with_reducible exact calls_grew (L1 _) | with_reducible exact calls_grew (L2 _)))
      refine wpQuiet_nil ?_
      intro w2 hw'
      have HA2 := Lib.hid (HA.out.keep (grew_of hw'))
      have HB2 := Lib.hid (HB.out.keep (grew_of hw'))
      have HG2 := Lib.hid (grew_trans HG.out (grew_of hw'))
      clear hw' x0 x1 x2 y0 y1 y2 HA HB HG R1 R2 F1 F2 L1 L2
      have x0 := HA2.out.c0
      have x1 := HA2.out.c1
      have x2 := HA2.out.c2
      rcases HOK.out with ⟨rfl, rfl⟩ | ⟨rfl, rfl⟩
      all_goals go_wp2_with (first
        | (go_at_call 14; ((with_reducible refine (N1 _).mono ?_); rintro e w3 ⟨rfl, hg⟩; have HG3 := Lib.hid (grew_trans HG2.out hg); clear hg))
        | (go_at_call 16; ((with_reducible refine (P1 _ (HE.out.keep HG3.out)).mono ?_); rintro e w4 ⟨rfl, hg⟩; have HG4 := Lib.hid (grew_trans HG3.out hg); clear hg))
        | (go_at_call 17; ((with_reducible refine (P2 _).mono ?_); rintro e w5 ⟨rfl, hg⟩; have K5 := Lib.hid (C3.of hg); have k0 := fun cs t => (K5.out.keep (grew_alloc w5 cs t)).c0; have k1 := fun cs t => (K5.out.keep (grew_alloc w5 cs t)).c1; have k2 := fun cs t => (K5.out.keep (grew_alloc w5 cs t)).c2; have HG5 := Lib.hid (grew_trans HG4.out (own_back hg)); clear hg))
        | (go_at_call 18; ((with_reducible refine (KA _).mono ?_); rintro e w6 ⟨rfl, hg⟩; have HG6 := Lib.hid (grew_trans HG5.out (own_back hg)); clear hg))
        | (go_at_call 19; ((with_reducible refine (WK _).mono ?_); rintro e w7 ⟨rfl, hg⟩; have HG7 := Lib.hid (grew_trans HG6.out hg); clear hg)))
      all_goals go_ret
      all_goals exact ⟨rfl, HG7.out⟩
    · rw [hr] at R1 R2 N1
      have N2 := fun w => N2 w hr
      simp only [if_true] at N1
      clear hr
      generalize (⟨(nameL k m c).toArray⟩ : ByteArray) = NS at *
      go_enter Tryd.func3, Tryd.ntmps3
      go_upto_region 4 with (first
        | (go_at_call 8; ((with_reducible refine (R2 _).mono ?_); rintro e w1 ⟨rfl, hg⟩; obtain ⟨ka, kb⟩ := C3.two hg; have HA := Lib.hid ka; have HB := Lib.hid kb; have HG := Lib.hid (own_back (own_back hg)); clear hg ka kb)))
      have x0 : ∀ p : GrewTo w1, p.to.cell? ⟨w.heap.size, 0, none⟩ = _ := fun p => (HA.out.keep p.h).c0
      have x1 : ∀ p : GrewTo w1, p.to.cell? ⟨w.heap.size, 1, none⟩ = _ := fun p => (HA.out.keep p.h).c1
      have x2 : ∀ p : GrewTo w1, p.to.cell? ⟨w.heap.size, 2, none⟩ = _ := fun p => (HA.out.keep p.h).c2
      have y0 : ∀ p : GrewTo w1, p.to.cell? ⟨w.heap.size + 1, 0, none⟩ = _ := fun p => (HB.out.keep p.h).c0
      have y1 : ∀ p : GrewTo w1, p.to.cell? ⟨w.heap.size + 1, 1, none⟩ = _ := fun p => (HB.out.keep p.h).c1
      have y2 : ∀ p : GrewTo w1, p.to.cell? ⟨w.heap.size + 1, 2, none⟩ = _ := fun p => (HB.out.keep p.h).c2
      refine wp_region_grew (by kernel_rfl) (by kernel_rfl) ?_
      repeat (go_big_quiet_step (first | with_reducible exact calls_grew (R1 _) | with_reducible exact calls_grew (F1 _) | with_reducible exact calls_grew (F2 _) | with_reducible exact calls_grew (L1 _) | with_reducible exact calls_grew (L2 _)))
      refine wpQuiet_nil ?_
      intro w2 hw'
      have HA2 := Lib.hid (HA.out.keep (grew_of hw'))
      have HB2 := Lib.hid (HB.out.keep (grew_of hw'))
      have HG2 := Lib.hid (grew_trans HG.out (grew_of hw'))
      clear hw' x0 x1 x2 y0 y1 y2 HA HB HG R1 R2 F1 F2 L1 L2
      have x0 := HA2.out.c0
      have x1 := HA2.out.c1
      have x2 := HA2.out.c2
      rcases HOK.out with ⟨rfl, rfl⟩ | ⟨rfl, rfl⟩
      all_goals go_wp2_with (first
        | (go_at_call 14; ((with_reducible refine (N1 _).mono ?_); rintro e w8 ⟨rfl, hg⟩; have HA8 := Lib.hid (HA2.out.keep hg); have z0 := HA8.out.c0; have z1 := HA8.out.c1; have z2 := HA8.out.c2; have HG8 := Lib.hid (grew_trans HG2.out hg); clear hg))
        | (go_at_call 15; ((with_reducible refine (N2 _).mono ?_); rintro e w3 ⟨rfl, hg⟩; have HG3 := Lib.hid (grew_trans HG8.out hg); clear hg))
        | (go_at_call 16; ((with_reducible refine (P1 _ (HE.out.keep HG3.out)).mono ?_); rintro e w4 ⟨rfl, hg⟩; have HG4 := Lib.hid (grew_trans HG3.out hg); clear hg))
        | (go_at_call 17; ((with_reducible refine (P2 _).mono ?_); rintro e w5 ⟨rfl, hg⟩; have K5 := Lib.hid (C3.of hg); have k0 := fun cs t => (K5.out.keep (grew_alloc w5 cs t)).c0; have k1 := fun cs t => (K5.out.keep (grew_alloc w5 cs t)).c1; have k2 := fun cs t => (K5.out.keep (grew_alloc w5 cs t)).c2; have HG5 := Lib.hid (grew_trans HG4.out (own_back hg)); clear hg))
        | (go_at_call 18; ((with_reducible refine (KA _).mono ?_); rintro e w6 ⟨rfl, hg⟩; have HG6 := Lib.hid (grew_trans HG5.out (own_back hg)); clear hg))
        | (go_at_call 19; ((with_reducible refine (WK _).mono ?_); rintro e w7 ⟨rfl, hg⟩; have HG7 := Lib.hid (grew_trans HG6.out hg); clear hg)))
      all_goals go_ret
      all_goals exact ⟨rfl, HG7.out⟩
end Go.Proofs.YtefjdgggafkmoaaDoor.NumK
