/- The law AcctAll. -/
import Derived.Test.YtefjdgggafkmoaaDoorAcctH
namespace Go.Proofs.YtefjdgggafkmoaaDoor.NumK
open Go.RowKit

theorem allTo_sub (kinds : List Int) (n : Nat) (hn : n ≤ 6) : List.Sublist (allTo kinds n) (allTo [1, 2, 3, 4, 5, 6] n) := by
  induction n with
  | zero => exact List.Sublist.refl _
  | succ n ih =>
    rw [allTo_succ, allTo_succ]
    refine List.Sublist.append (ih (by omega)) ?_
    have hc : ([1, 2, 3, 4, 5, 6] : List Int).contains ((n : Int) + 1) = true := by
      have : n = 0 ∨ n = 1 ∨ n = 2 ∨ n = 3 ∨ n = 4 ∨ n = 5 := by omega
      rcases this with rfl | rfl | rfl | rfl | rfl | rfl <;> decide
    rw [if_pos hc]
    split
    · exact List.Sublist.refl _
    · exact List.nil_sublist _
theorem allK_rises : allK.Pairwise fun a b => lessA a.1 a.2.1 a.2.2 b.1 b.2.1 b.2.2 = true := by decide +kernel
theorem allL_rises (kinds : List Int) : (allL kinds).Pairwise fun a b => lessA a.1 a.2.1 a.2.2 b.1 b.2.1 b.2.2 = true := List.Pairwise.sublist (allTo_sub kinds 6 (Nat.le_refl _)) allK_rises
theorem allL_right (kinds : List Int) (a : Ac) (h : a ∈ allL kinds) : rightA a.1 a.2.1 a.2.2 = true := allK_right a ((allTo_sub kinds 6 (Nat.le_refl _)).subset h)
theorem getD_mem {α : Type} {l : List α} {j : Nat} (d : α) (h : j < l.length) : l.getD j d ∈ l := by
  rw [show l.getD j d = l[j] by simp [List.getD, h]]
  exact List.getElem_mem h
theorem rises_at {l : List Ac} (h : l.Pairwise fun a b => lessA a.1 a.2.1 a.2.2 b.1 b.2.1 b.2.2 = true) {i j : Nat} (hij : i < j) (hj : j < l.length) :
    lessA (l.getD i (0, 0, 0)).1 (l.getD i (0, 0, 0)).2.1 (l.getD i (0, 0, 0)).2.2 (l.getD j (0, 0, 0)).1 (l.getD j (0, 0, 0)).2.1 (l.getD j (0, 0, 0)).2.2 = true := by
  rw [show l.getD i (0, 0, 0) = l[i]'(by omega) by simp [List.getD, show i < l.length by omega], show l.getD j (0, 0, 0) = l[j] by simp [List.getD, hj]]
  exact List.pairwise_iff_getElem.1 h i j (by omega) hj hij

set_option maxRecDepth 100000 in
set_option maxHeartbeats 2000000 in
theorem acctAll_walk (A : Option Addr) (n c : Nat) (kinds : List Int) (w : World) (h : Ints w A n kinds) (hn : n ≤ 9223372036854775807) :
    Calls Tryd.prog 4 #[.slice A n c] w fun e w' => e = .returned (.bool true) ∧ Grew w w' := by
  by_cases hbig : (1000 : Int) < (n : Int)
  · go_enter Tryd.func4, Tryd.ntmps4
    go_wp2
    go_ret
    exact ⟨rfl, grew_refl _⟩
  · have HI := Lib.hid h
    have HRS := Lib.hid (allL_rises kinds)
    have HRT : Hid (∀ j, j < (allL kinds).length → rightA ((allL kinds).getD j (0, 0, 0)).1 ((allL kinds).getD j (0, 0, 0)).2.1 ((allL kinds).getD j (0, 0, 0)).2.2 = true) := fun j hj => allL_right kinds _ (getD_mem _ hj)
    have hL : (allL kinds).length ≤ 288 := by have := allTo_len kinds 6; exact this
    have CA : ∀ w0, Ints w0 A n kinds → Calls Tryd.prog 20 #[.slice A n c] w0 fun e w' => ∃ A1 c1, e = .returned (.slice A1 (allL kinds).length c1) ∧ RowE enAc w' A1 (allL kinds).length (allL kinds) ∧ Grew w0 w' := fun w0 h0 =>
      (all_any A n c kinds w0 h0 hn).mono fun e w' ⟨v, he, ho, hg⟩ => by
        obtain ⟨A1, c1, rfl, hr, _⟩ := ho.form
        exact ⟨A1, c1, he, hr, hg⟩
    have CR : ∀ w0, Ints w0 A n kinds → Calls Tryd.prog 22 #[.slice A n c] w0 fun e w' => ∃ A1 c1, e = .returned (.slice A1 (allL kinds).length c1) ∧ RowE enAc w' A1 (allL kinds).length (allL kinds) ∧ Grew w0 w' := fun w0 h0 =>
      (refAll_any A n c kinds w0 h0 hn).mono fun e w' ⟨v, he, ho, hg⟩ => by
        obtain ⟨A1, c1, rfl, hr, _⟩ := ho.form
        exact ⟨A1, c1, he, hr, hg⟩
    have CK : ∀ A1 A2 c1 c2 w0, RowE enAc w0 A1 (allL kinds).length (allL kinds) → RowE enAc w0 A2 (allL kinds).length (allL kinds) → Calls Tryd.prog 21 #[.slice A1 (allL kinds).length c1, .slice A2 (allL kinds).length c2] w0 fun e w' => e = .returned (.bool true) ∧ Grew w0 w' := fun A1 A2 c1 c2 w0 h1 h2 => by
      have := keepAccts_any A1 A2 _ _ c1 c2 _ _ w0 h1 h2 (by omega)
      rwa [decide_eq_true rfl] at this
    have WK := fun w => wakes08_any w
    have HLN : Hid ((allL kinds).length = (allL kinds).length) := rfl
    clear h
    generalize hlen : (allL kinds).length = L at *
    have HLL := Lib.hid hlen
    clear hlen
    go_enter Tryd.func4, Tryd.ntmps4
    go_wp2_with (first
      | (go_at_call 20; ((with_reducible refine (CA _ HI.out).mono ?_); rintro e w1 ⟨A1, c1, rfl, hr, hg⟩; have HR1 := Lib.hid hr; have HG1 := Lib.hid hg; clear hr hg))
      | (go_at_call 22; ((with_reducible refine (CR _ (HI.out.keep HG1.out)).mono ?_); rintro e w2 ⟨A2, c2, rfl, hr, hg⟩; have HR2 := Lib.hid hr; have HR1' := Lib.hid (HR1.out.keep hg); have HG2 := Lib.hid (grew_trans HG1.out hg); clear hr hg))
      | (go_at_call 21; ((with_reducible refine (CK _ _ _ _ _ HR1'.out HR2.out).mono ?_); rintro e w3 ⟨rfl, hg⟩; have HR3 := Lib.hid (HR1'.out.keep hg); have HG3 := Lib.hid (grew_trans HG2.out hg); clear hg)))
    clear CA CR CK HR1 HR2 HR1' HI
    go_loopw [4] (fun v4 wr => ∃ j : Nat, v4 = .int .i64 j ∧ j ≤ L ∧ Hid (Grew w3 wr)) (fun v4 _ => L - (intOf v4).toNat)
    case atStart => exact ⟨0, rfl, by omega, grew_refl _⟩
    case round =>
      obtain ⟨j, rfl, hj, HG⟩ := hrel
      by_cases hlt : j < L
      · obtain ⟨b, o, rfl, hb, a1, a2, a3⟩ := (HR3.out.keep HG.out).ac hlt
        have x1 : ∀ p : GrewTo wr, p.to.cell? ⟨b, o + j * 3, none⟩ = _ := fun p => (grew_cell p.h (p := ⟨b, o + j * 3, none⟩) hb).trans a1
        have x2 : ∀ p : GrewTo wr, p.to.cell? ⟨b, o + j * 3 + 1, none⟩ = _ := fun p => (grew_cell p.h (p := ⟨b, o + j * 3 + 1, none⟩) hb).trans a2
        have x3 : ∀ p : GrewTo wr, p.to.cell? ⟨b, o + j * 3 + 2, none⟩ = _ := fun p => (grew_cell p.h (p := ⟨b, o + j * 3 + 2, none⟩) hb).trans a3
        have R1 := fun w => right_any ((allL kinds).getD j (0, 0, 0)).1 ((allL kinds).getD j (0, 0, 0)).2.1 ((allL kinds).getD j (0, 0, 0)).2.2 w
        rw [HRT.out j (by have := HLL.out; omega)] at R1
        have i1 : (j : Int) < (L : Int) := by omega
        have i0 : (0 : Int) ≤ (j : Int) := by omega
        unfold acV at R1
        clear a1 a2 a3
        have HL2 := Lib.hid hL
        clear hL
        rcases Nat.eq_zero_or_pos j with h0 | h0
        · have n0 : decide (0 < j) = false := by simp; omega
          generalize ((allL kinds).getD j (0, 0, 0)).1 = q1 at *
          generalize ((allL kinds).getD j (0, 0, 0)).2.1 = q2 at *
          generalize ((allL kinds).getD j (0, 0, 0)).2.2 = q3 at *
          have H0 := Lib.hid h0
          clear h0
          go_wp2_with fail
          refine wp_region_grew (by kernel_rfl) (by kernel_rfl) ?_
          repeat (go_big_quiet_step (first | with_reducible exact calls_grew (R1 _)))
          refine wpQuiet_nil ?_
          intro w9 hw'
          have HG9 := Lib.hid (grew_trans HG.out (grew_of hw'))
          clear hw' x1 x2 x3
          have hL3 := HL2.out
          go_wp2
          go_roundw
          case rel => exact ⟨j + 1, by go_num, by omega, HG9⟩
          case measure => simp only [intOf]; omega
        · obtain ⟨q, rfl⟩ : ∃ q, j = q + 1 := ⟨j - 1, by omega⟩
          obtain ⟨b', o', he, hb', a1, a2, a3⟩ := (HR3.out.keep HG.out).ac (show q < L by omega)
          cases he
          have y1 : ∀ p : GrewTo wr, p.to.cell? ⟨b, o + q * 3, none⟩ = _ := fun p => (grew_cell p.h (p := ⟨b, o + q * 3, none⟩) hb).trans a1
          have y2 : ∀ p : GrewTo wr, p.to.cell? ⟨b, o + q * 3 + 1, none⟩ = _ := fun p => (grew_cell p.h (p := ⟨b, o + q * 3 + 1, none⟩) hb).trans a2
          have y3 : ∀ p : GrewTo wr, p.to.cell? ⟨b, o + q * 3 + 2, none⟩ = _ := fun p => (grew_cell p.h (p := ⟨b, o + q * 3 + 2, none⟩) hb).trans a3
          have L1 := fun w => less_any ((allL kinds).getD q (0, 0, 0)).1 ((allL kinds).getD q (0, 0, 0)).2.1 ((allL kinds).getD q (0, 0, 0)).2.2 ((allL kinds).getD (q + 1) (0, 0, 0)).1 ((allL kinds).getD (q + 1) (0, 0, 0)).2.1 ((allL kinds).getD (q + 1) (0, 0, 0)).2.2 w
          rw [rises_at HRS.out (Nat.lt_succ_self q) (by have := HLL.out; omega)] at L1
          unfold acV at L1
          clear a1 a2 a3 hb'
          generalize ((allL kinds).getD q (0, 0, 0)).1 = p1 at *
          generalize ((allL kinds).getD q (0, 0, 0)).2.1 = p2 at *
          generalize ((allL kinds).getD q (0, 0, 0)).2.2 = p3 at *
          generalize ((allL kinds).getD (q + 1) (0, 0, 0)).1 = q1 at *
          generalize ((allL kinds).getD (q + 1) (0, 0, 0)).2.1 = q2 at *
          generalize ((allL kinds).getD (q + 1) (0, 0, 0)).2.2 = q3 at *
          have i2 : (q : Int) < (L : Int) := by omega
          have hw : wrap64 (q : Int) = (q : Int) := by have := HL2.out; unfold wrap64; omega
          go_wp2_with fail
          refine wp_region_grew (by kernel_rfl) (by kernel_rfl) ?_
          repeat (go_big_quiet_step (first | with_reducible exact calls_grew (R1 _) | with_reducible exact calls_grew (L1 _)))
          refine wpQuiet_nil ?_
          intro w9 hw'
          have HG9 := Lib.hid (grew_trans HG.out (grew_of hw'))
          clear hw' x1 x2 x3 y1 y2 y3 hw
          have hL3 := HL2.out
          go_wp2
          go_roundw
          case rel => exact ⟨q + 1 + 1, by go_num, by omega, HG9⟩
          case measure => simp only [intOf]; omega
      · obtain rfl : j = L := by omega
        go_wp2_with (go_at_call 19; ((with_reducible refine (WK _).mono ?_); rintro e w7 ⟨rfl, hg⟩; have HG7 := Lib.hid (grew_trans HG3.out (grew_trans HG.out hg)); clear hg))
        go_ret
        exact ⟨rfl, HG7.out⟩
end Go.Proofs.YtefjdgggafkmoaaDoor.NumK
