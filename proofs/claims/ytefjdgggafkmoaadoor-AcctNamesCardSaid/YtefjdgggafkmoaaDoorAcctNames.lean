/- The law AcctNames. -/
import Derived.Test.YtefjdgggafkmoaaDoorAcctAll
import Derived.Test.YtefjdgggafkmoaaDoorAcctOrder
namespace Go.Proofs.YtefjdgggafkmoaaDoor.NumK
open Go.RowKit

theorem allK_at (j : Nat) (h : j < 108) : rightA (allK.getD j (0, 0, 0)).1 (allK.getD j (0, 0, 0)).2.1 (allK.getD j (0, 0, 0)).2.2 = true := allK_right _ (getD_mem _ (by rw [allK_len]; exact h))
theorem names_apart (i j : Nat) (hij : i < j) (hj : j < 108) : ¬ nameL (allK.getD j (0, 0, 0)).1 (allK.getD j (0, 0, 0)).2.1 (allK.getD j (0, 0, 0)).2.2 = nameL (allK.getD i (0, 0, 0)).1 (allK.getD i (0, 0, 0)).2.1 (allK.getD i (0, 0, 0)).2.2 := by
  intro h
  have e := name_inj _ _ (allK_at j hj) (allK_at i (by omega)) h
  have h1 := rises_at allK_rises hij (by rw [allK_len]; exact hj)
  rw [e, lessA_self] at h1
  cases h1

set_option maxRecDepth 100000 in
set_option maxHeartbeats 2000000 in
theorem acctNames_walk (w : World) :
    Calls Tryd.prog 6 #[] w fun e w' => e = .returned (.bool true) ∧ Grew w w' := by
  have CA : ∀ (w : World) (N : Nat), w.heap.size = N → Calls Tryd.prog 20 #[.slice (some ⟨N, 0, none⟩) 6 6] (w.alloc (.cells #[.int .i64 1, .int .i64 2, .int .i64 3, .int .i64 4, .int .i64 5, .int .i64 6] 3)) fun e w' => ∃ A c, e = .returned (.slice A 108 c) ∧ RowE enAc w' A 108 allK ∧ Grew (w.alloc (.cells #[.int .i64 1, .int .i64 2, .int .i64 3, .int .i64 4, .int .i64 5, .int .i64 6] 3)) w' := by
    intro w N hN
    refine (all_any (some ⟨N, 0, none⟩) 6 6 [1, 2, 3, 4, 5, 6] _ (ints6' w 1 2 3 4 5 6 _ N hN) (by omega)).mono ?_
    rintro e w' ⟨v, rfl, ho, hg⟩
    obtain ⟨A, c, rfl, hr, _⟩ := ho.form
    have hl : (allL [1, 2, 3, 4, 5, 6]).length = 108 := allK_len
    rw [hl] at hr ⊢
    exact ⟨A, c, rfl, hr, hg⟩
  have CN : ∀ j, j < 108 → ∀ w, Calls Tryd.prog 14 #[acV (allK.getD j (0, 0, 0)).1 (allK.getD j (0, 0, 0)).2.1 (allK.getD j (0, 0, 0)).2.2] w fun e w' => e = .returned (.tuple #[.string ⟨(nameL (allK.getD j (0, 0, 0)).1 (allK.getD j (0, 0, 0)).2.1 (allK.getD j (0, 0, 0)).2.2).toArray⟩, .int .i64 0]) ∧ Grew w w' := fun j hj w => by
    have := name_any (allK.getD j (0, 0, 0)).1 (allK.getD j (0, 0, 0)).2.1 (allK.getD j (0, 0, 0)).2.2 w
    rw [allK_at j hj] at this
    exact this
  have WK := fun w => wakes08_any w
  go_enter Tryd.func6, Tryd.ntmps6
  go_wp2_with (go_at_call 20; ((with_reducible refine (CA _ _ (by simp)).mono ?_); rintro e w1 ⟨A, c, rfl, hr, hg⟩; have HR := Lib.hid hr; have HG1 := Lib.hid (own_back hg); clear hr hg CA))
  go_loopw [2] (fun v2 wr => ∃ j : Nat, v2 = .int .i64 j ∧ j ≤ 108 ∧ Hid (Grew w1 wr)) (fun v2 _ => 108 - (intOf v2).toNat)
  case atStart => exact ⟨0, rfl, by omega, grew_refl _⟩
  case round =>
    obtain ⟨j, rfl, hj, HG⟩ := hrel
    by_cases hlt : j < 108
    · obtain ⟨b, o, rfl, hb, c1, c2, c3⟩ := (HR.out.keep HG.out).ac hlt
      have C := CN j hlt
      have HNA := Lib.hid (fun i hi => names_apart i j hi hlt)
      have HLS := Lib.hid (fun i (hi : i < j) => rises_at allK_rises hi (by rw [allK_len]; exact hlt))
      have L1 := fun w => less_any (allK.getD j (0, 0, 0)).1 (allK.getD j (0, 0, 0)).2.1 (allK.getD j (0, 0, 0)).2.2 (allK.getD j (0, 0, 0)).1 (allK.getD j (0, 0, 0)).2.1 (allK.getD j (0, 0, 0)).2.2 w
      rw [lessA_self] at L1
      have L2 := fun (i : Nat) w => less_any (allK.getD i (0, 0, 0)).1 (allK.getD i (0, 0, 0)).2.1 (allK.getD i (0, 0, 0)).2.2 (allK.getD j (0, 0, 0)).1 (allK.getD j (0, 0, 0)).2.1 (allK.getD j (0, 0, 0)).2.2 w
      have i1 : (j : Int) < 108 := by omega
      have i0 : (0 : Int) ≤ (j : Int) := by omega
      have HB := Lib.hid hb
      clear hb
      unfold acV at C L1 L2
      generalize nameL (allK.getD j (0, 0, 0)).1 (allK.getD j (0, 0, 0)).2.1 (allK.getD j (0, 0, 0)).2.2 = NL at *
      generalize (allK.getD j (0, 0, 0)).1 = q1 at *
      generalize (allK.getD j (0, 0, 0)).2.1 = q2 at *
      generalize (allK.getD j (0, 0, 0)).2.2 = q3 at *
      go_upto_region 8 with (go_at_call 14; ((with_reducible refine (C _).mono ?_); rintro e w2 ⟨rfl, hg⟩; have d1 := (grew_cell hg (p := ⟨b, o + j * 3, none⟩) HB.out).trans c1; have d2 := (grew_cell hg (p := ⟨b, o + j * 3 + 1, none⟩) HB.out).trans c2; have d3 := (grew_cell hg (p := ⟨b, o + j * 3 + 2, none⟩) HB.out).trans c3; have HB2 := Lib.hid (Nat.lt_of_lt_of_le HB.out hg.size); have HG2 := Lib.hid (grew_trans HG.out hg); clear hg))
      have x1 : ∀ p : GrewTo w2, p.to.cell? ⟨b, o + j * 3, none⟩ = _ := fun p => (grew_cell p.h (p := ⟨b, o + j * 3, none⟩) HB2.out).trans d1
      have x2 : ∀ p : GrewTo w2, p.to.cell? ⟨b, o + j * 3 + 1, none⟩ = _ := fun p => (grew_cell p.h (p := ⟨b, o + j * 3 + 1, none⟩) HB2.out).trans d2
      have x3 : ∀ p : GrewTo w2, p.to.cell? ⟨b, o + j * 3 + 2, none⟩ = _ := fun p => (grew_cell p.h (p := ⟨b, o + j * 3 + 2, none⟩) HB2.out).trans d3
      clear c1 c2 c3 d1 d2 d3
      refine wp_region_grew (by kernel_rfl) (by kernel_rfl) ?_
      repeat (go_big_quiet_step (with_reducible exact calls_grew (L1 _)))
      refine wpQuiet_nil ?_
      intro w3 hw'
      have HG3 := Lib.hid (grew_trans HG2.out (grew_of hw'))
      have z := fun p : GrewTo w3 => (⟨p.to, grew_trans (grew_of hw') p.h⟩ : GrewTo w2)
      have z1 : ∀ p : GrewTo w3, p.to.cell? ⟨b, o + j * 3, none⟩ = _ := fun p => x1 ⟨p.to, grew_trans (grew_of hw') p.h⟩
      have z2 : ∀ p : GrewTo w3, p.to.cell? ⟨b, o + j * 3 + 1, none⟩ = _ := fun p => x2 ⟨p.to, grew_trans (grew_of hw') p.h⟩
      have z3 : ∀ p : GrewTo w3, p.to.cell? ⟨b, o + j * 3 + 2, none⟩ = _ := fun p => x3 ⟨p.to, grew_trans (grew_of hw') p.h⟩
      have Z1 := Lib.hid z1
      have Z2 := Lib.hid z2
      have Z3 := Lib.hid z3
      clear hw' x1 x2 x3 z z1 z2 z3 C L1
      go_wp2
      go_loopw [5] (fun v5 wr2 => ∃ i : Nat, v5 = .int .i64 i ∧ i ≤ j ∧ Hid (Grew w3 wr2)) (fun v5 _ => j - (intOf v5).toNat)
      case atStart => exact ⟨0, rfl, by omega, grew_refl _⟩
      case round =>
        obtain ⟨i, rfl, hi, HG4⟩ := hrel
        by_cases hij : i < j
        · obtain ⟨b', o', he, hb', c1, c2, c3⟩ := (HR.out.keep (grew_trans HG3.out HG4.out)).ac (show i < 108 by omega)
          cases he
          have C2 := CN i (by omega)
          have hne := HNA.out i hij
          have L3 := fun w => L2 i w
          have hls := HLS.out i hij
          unfold acV at C2
          have hsn : ((⟨NL.toArray⟩ : ByteArray).toList == (⟨(nameL (allK.getD i (0, 0, 0)).1 (allK.getD i (0, 0, 0)).2.1 (allK.getD i (0, 0, 0)).2.2).toArray⟩ : ByteArray).toList) = false := by
            rw [Lib.toList_data, Lib.toList_data, beq_eq_false_iff_ne]
            exact hne
          rw [hls] at L3
          clear hne hls
          generalize (⟨(nameL (allK.getD i (0, 0, 0)).1 (allK.getD i (0, 0, 0)).2.1 (allK.getD i (0, 0, 0)).2.2).toArray⟩ : ByteArray) = NS2 at *
          generalize (⟨NL.toArray⟩ : ByteArray) = NS at *
          generalize (allK.getD i (0, 0, 0)).1 = p1 at *
          generalize (allK.getD i (0, 0, 0)).2.1 = p2 at *
          generalize (allK.getD i (0, 0, 0)).2.2 = p3 at *
          have k1 : (i : Int) < (j : Int) := by omega
          have k2 : (i : Int) < 108 := by omega
          have HB4 := Lib.hid hb'
          clear hb' L2
          go_upto_region 14 with (go_at_call 14; ((with_reducible refine (C2 _).mono ?_); rintro e w4 ⟨rfl, hg⟩; have x1 : ∀ p : GrewTo w4, p.to.cell? ⟨b, o + i * 3, none⟩ = _ := fun p => (grew_cell (grew_trans hg p.h) (p := ⟨b, o + i * 3, none⟩) HB4.out).trans c1; have x2 : ∀ p : GrewTo w4, p.to.cell? ⟨b, o + i * 3 + 1, none⟩ = _ := fun p => (grew_cell (grew_trans hg p.h) (p := ⟨b, o + i * 3 + 1, none⟩) HB4.out).trans c2; have x3 : ∀ p : GrewTo w4, p.to.cell? ⟨b, o + i * 3 + 2, none⟩ = _ := fun p => (grew_cell (grew_trans hg p.h) (p := ⟨b, o + i * 3 + 2, none⟩) HB4.out).trans c3; have y1 : ∀ p : GrewTo w4, p.to.cell? ⟨b, o + j * 3, none⟩ = _ := fun p => Z1.out ⟨p.to, grew_trans HG4.out (grew_trans hg p.h)⟩; have y2 : ∀ p : GrewTo w4, p.to.cell? ⟨b, o + j * 3 + 1, none⟩ = _ := fun p => Z2.out ⟨p.to, grew_trans HG4.out (grew_trans hg p.h)⟩; have y3 : ∀ p : GrewTo w4, p.to.cell? ⟨b, o + j * 3 + 2, none⟩ = _ := fun p => Z3.out ⟨p.to, grew_trans HG4.out (grew_trans hg p.h)⟩; have HG5 := Lib.hid (grew_trans HG4.out hg); clear hg c1 c2 c3))
          refine wp_region_grew (by kernel_rfl) (by kernel_rfl) ?_
          repeat (go_big_quiet_step (with_reducible exact calls_grew (L3 _)))
          refine wpQuiet_nil ?_
          intro w5 hw'
          have HG6 := Lib.hid (grew_trans HG5.out (grew_of hw'))
          clear hw' x1 x2 x3 y1 y2 y3
          go_wp2
          go_roundw
          case rel => exact ⟨i + 1, by go_num, by omega, HG6⟩
          case measure => simp only [intOf]; omega
        · obtain rfl : i = j := by omega
          go_wp2
          go_roundw
          case rel => exact ⟨i + 1, by go_num, by omega, grew_trans HG3.out HG4.out⟩
          case measure => simp only [intOf]; omega
    · obtain rfl : j = 108 := by omega
      go_wp2_with (go_at_call 19; ((with_reducible refine (WK _).mono ?_); rintro e w7 ⟨rfl, hg⟩; have HG7 := Lib.hid (grew_trans HG1.out (grew_trans HG.out hg)); clear hg))
      go_ret
      exact ⟨rfl, HG7.out⟩
end Go.Proofs.YtefjdgggafkmoaaDoor.NumK
