/- Turn: the program's, the document's. -/
import Derived.Test.YtnbgbfbiieimgaaRF
import Derived.Test.YtnbgbfbiieimgaaRG
import Derived.Test.YtnbgbfbiieimgaaRL
import Derived.Test.YtnbgbfbiieimgaaRM
import Derived.Test.YtnbgbfbiieimgaaRN
import Derived.Test.YtnbgbfbiieimgaaRO
import Derived.Test.YtnbgbfbiieimgaaRP
import Derived.Deep.Slices
namespace Go.Proofs.Ytnbgbfbiieimgaa.NumK
open Go.RowKit
set_option linter.unusedVariables false

theorem turn_zero {x : In} (h : x.1.2.2.2.2.1 = 0) : turnIn x = x := by unfold turnIn; rw [if_neg (by omega)]
theorem turn_set {x : In} (h : x.1.2.2.2.2.1 ≠ 0) : turnIn x = ((x.1.1, x.1.2.1, x.1.2.2.1, x.1.2.2.2.1, 0, x.1.2.2.2.2.1), x.2) := by unfold turnIn; rw [if_pos h]
theorem OwnE.at0In {w : World} {base : Nat} {t : TypeId} {A : Option Addr} {n c : Nat} {l : List In} (h : OwnE enIn w base t (.slice A n c) l) {j : Nat} (hj : j < l.length) :
    ∃ g, A = some ⟨g, 0, none⟩ ∧ base ≤ g ∧ g < w.heap.size ∧ (∀ k, w.frozen? ⟨g, k, none⟩ = false) ∧ CIn w g (j * 12) (l.getD j in0) := by
  obtain ⟨g, e, h1, h2, h3, h4⟩ := h.at0 (by omega)
  refine ⟨g, e, h1, h2, h3, ?_⟩
  rw [getD_at l in0 j hj]
  exact ⟨h4 j hj 0 (by decide), h4 j hj 1 (by decide), h4 j hj 2 (by decide), h4 j hj 3 (by decide), h4 j hj 4 (by decide), h4 j hj 5 (by decide), h4 j hj 6 (by decide), h4 j hj 7 (by decide), h4 j hj 8 (by decide), h4 j hj 9 (by decide), h4 j hj 10 (by decide), h4 j hj 11 (by decide)⟩
theorem OwnE.otherB {α : Type} {E : En α} {w : World} {base : Nat} {t : TypeId} {A : Option Addr} {n c : Nat} {l : List α} (h : OwnE E w base t (.slice A n c) l) (b i : Nat) (u : Value) (hb : ∀ x, A = some x → x.block ≠ b) : OwnE E (w.setCell ⟨b, i, none⟩ u) base t (.slice A n c) l := by
  obtain ⟨hl, h⟩ := h
  refine ⟨hl, ?_⟩
  rcases h with h | ⟨g, cap, cur, hv, h1, hh, r⟩
  · exact Or.inl h
  · refine Or.inr ⟨g, cap, cur, hv, h1, ?_, r⟩
    cases hv
    rw [Below.heap_setCell _ _ _ _ (by show g ≠ b; exact hb ⟨g, 0, none⟩ rfl)]
    exact hh

set_option maxRecDepth 100000 in
set_option maxHeartbeats 4000000 in
theorem turn_any (r : Rl) (A1 A2 A3 : Option Addr) (n1 n2 n3 c1 c2 c3 : Nat) (w : World) (h : In3 w r A1 A2 A3 n1 n2 n3 c1 c2 c3) (hn : n1 ≤ 1000000 ∧ n2 ≤ 1000000 ∧ n3 ≤ 1000000) :
    Calls Try.prog 22 #[rlV A1 A2 A3 n1 n2 n3 c1 c2 c3] w (RollP (turnF r) w) := by
  have hl2 : r.2.1.length ≤ 1000000 := by rw [h.rows.i.len]; exact hn.2.1
  have CC := fun w' (g : Grew w w') => copied_any r A1 A2 A3 n1 n2 n3 c1 c2 c3 w' (h.keep g) hn
  clear h
  dsimp only [rlV] at CC ⊢
  have HX0 : Hid (OwnC ((w.alloc (.cells #[.slice A1 n1 c1, .slice A2 n2 c2, .slice A3 n3 c3] 26)).alloc (.cells #[.slice none 0 0, .slice none 0 0, .slice none 0 0] 26)) (w.heap.size + 1) [.slice none 0 0, .slice none 0 0, .slice none 0 0]) := OwnC.new _ [.slice none 0 0, .slice none 0 0, .slice none 0 0] _ _ (by simp)
  go_enter Try.func22, Try.ntmps22
  go_wp2_with (go_at_call 59; ((with_reducible refine (CC _ (grew_trans (grew_alloc _ _ _) (grew_alloc _ _ _))).mono ?_); rintro e w1 ⟨B1, B2, B3, d1, d2, d3, rfl, ⟨ho, ha12, ha13, ha23⟩, hg⟩; have HO := Lib.hid ho; have HA12 := Lib.hid ha12; have HA23 := Lib.hid ha23; have HY1 := Lib.hid (HX0.out.keep hg); have HG1 : Hid (Grew w w1) := grew_trans (grew_trans (grew_alloc _ _ _) (grew_alloc _ _ _)) hg; have HSZ : Hid (w.heap.size + 2 ≤ w1.heap.size) := (by have := hg.size; simp at this; exact this); dsimp only [rlV]; clear ho ha12 ha13 ha23 hg CC))
  have HG2 : Hid (Grew w (w1.alloc (.cells #[.slice B1 r.1.length d1, .slice B2 r.2.1.length d2, .slice B3 r.2.2.length d3] 26))) := grew_trans HG1.out (grew_alloc _ _ _)
  have HZ2 : Hid (OwnC (w1.alloc (.cells #[.slice B1 r.1.length d1, .slice B2 r.2.1.length d2, .slice B3 r.2.2.length d3] 26)) w1.heap.size [.slice B1 r.1.length d1, .slice B2 r.2.1.length d2, .slice B3 r.2.2.length d3]) := OwnC.new w1 [.slice B1 r.1.length d1, .slice B2 r.2.1.length d2, .slice B3 r.2.2.length d3] _ _ rfl
  have HY2 := Lib.hid (HY1.out.keep (grew_alloc w1 #[.slice B1 r.1.length d1, .slice B2 r.2.1.length d2, .slice B3 r.2.2.length d3] 26))
  have HO2 := Lib.hid (HO.out.keep (grew_alloc w1 #[.slice B1 r.1.length d1, .slice B2 r.2.1.length d2, .slice B3 r.2.2.length d3] 26))
  have HGB : Hid (∀ x, B2 = some x → w.heap.size + 2 + 2 ≤ x.block ∧ x.block < w1.heap.size) := fun x hx => by
    have := HO.out.i.block x hx
    simp at this
    exact this
  generalize w1.alloc (.cells #[.slice B1 r.1.length d1, .slice B2 r.2.1.length d2, .slice B3 r.2.2.length d3] 26) = w2 at *
  have P1 : Hid (OwnE enMb w2 (w.heap.size + 2) 33 (.slice B1 r.1.length d1) r.1) := HO2.out.m.mono (by simp)
  have P2 : Hid (OwnE enIn w2 (w.heap.size + 2) 38 (.slice B2 r.2.1.length d2) r.2.1) := HO2.out.i.mono (by simp)
  have P3 : Hid (OwnE enAs w2 (w.heap.size + 2) 42 (.slice B3 r.2.2.length d3) r.2.2) := HO2.out.h.mono (by simp)
  have hpl := fun j => pre_len turnIn r.2.1 j
  have HPL := Lib.hid hpl
  clear HO HO2 hpl
  have y2 : w2.cell? ⟨w1.heap.size, 1, none⟩ = some (.slice B2 r.2.1.length d2) := HZ2.out.at 1 _ rfl
  go_wp2_with fail
  generalize hN : r.2.1.length = n at *
  have HN := Lib.hid hN
  clear hN
  go_loopw [11] (fun v wr => ∃ j : Nat, v = .int .i64 j ∧ j ≤ n ∧ Hid (OwnE enMb wr (w.heap.size + 2) 33 (.slice B1 r.1.length d1) r.1) ∧ Hid (OwnE enIn wr (w.heap.size + 2) 38 (.slice B2 n d2) (preL turnIn r.2.1 j)) ∧ Hid (OwnE enAs wr (w.heap.size + 2) 42 (.slice B3 r.2.2.length d3) r.2.2) ∧ Hid (OwnC wr (w.heap.size + 1) [.slice none 0 0, .slice none 0 0, .slice none 0 0]) ∧ Hid (OwnC wr w1.heap.size [.slice B1 r.1.length d1, .slice B2 n d2, .slice B3 r.2.2.length d3]) ∧ Hid (w1.heap.size < wr.heap.size) ∧ Hid (Grew w wr)) (fun v _ => n - (intOf v).toNat)
  case atStart => exact ⟨0, rfl, by omega, P1.out, by rw [pre_zero]; exact P2.out, P3.out, HY2.out, HZ2.out, HZ2.out.lt, HG2.out⟩
  case round =>
    obtain ⟨j, rfl, hj, H1, H2, H3, HY, HZ, HS, HG⟩ := hrel
    have z1 : wr.cell? ⟨w1.heap.size, 1, none⟩ = some (.slice B2 n d2) := HZ.out.at 1 _ rfl
    by_cases hlt : j < n
    · have hjl : j < r.2.1.length := by rw [HN.out]; exact hlt
      have hjp : j < (preL turnIn r.2.1 j).length := by rw [HPL.out]; exact hlt
      obtain ⟨g, rfl, hg1, hg2, hfr, hc⟩ := H2.out.at0In hjp
      rw [getD_at _ _ _ hjp, pre_get _ _ _ hjl] at hc
      obtain ⟨a0, a1, a2, a3, a4, a5, a6, a7, a8, a9, a10, a11⟩ := hc
      have HGB2 : Hid (g ≠ w1.heap.size) := by have := (HGB.out _ rfl).2; show g ≠ _; intro e; rw [e] at this; exact absurd this (Nat.lt_irrefl _)
      have HST := Lib.hid (pre_set turnIn r.2.1 j hjl)
      have HSM := Lib.hid (pre_same turnIn r.2.1 j hjl)
      have HGT := Lib.hid (pre_get turnIn r.2.1 j hjl)
      have HT0 := Lib.hid (@turn_zero r.2.1[j])
      have HT1 := Lib.hid (@turn_set r.2.1[j])
      have i0 : (0 : Int) ≤ (j : Int) := by omega
      have i1 : (j : Int) < (n : Int) := by omega
      have hfr4 := hfr (j * 12 + 4)
      have hfr5 := hfr (j * 12 + 5)
      clear hfr
      generalize r.2.1[j] = x at *
      obtain ⟨⟨q1, q2, q3, q4, q5, q6⟩, ⟨q7, q8, q9, q10, q11, q12⟩⟩ := x
      dsimp only at a0 a1 a2 a3 a4 a5 a6 a7 a8 a9 a10 a11 HT0 HT1
      by_cases h0 : q5 = 0
      · have HE : Hid (preL turnIn r.2.1 (j + 1) = preL turnIn r.2.1 j) := HSM.out (HT0.out h0)
        subst h0
        rw [← HE.out] at H2
        have HGA : Hid (Grew wr (wr.alloc (.cells #[.int .i64 q1, .int .i64 q2, .int .i64 q3, .int .i64 q4, .int .i64 0, .int .i64 q6, .int .i64 q7, .int .i64 q8, .int .i64 q9, .int .i64 q10, .int .i64 q11, .int .i64 q12] 38))) := grew_alloc _ _ _
        clear HST HSM HGT HT0 HT1 HE
        go_wp2
        go_roundw
        case rel => exact ⟨j + 1, by go_num, by omega, H1.out.keep HGA.out, H2.out.keep HGA.out, H3.out.keep HGA.out, HY.out.keep HGA.out, HZ.out.keep HGA.out, Nat.lt_of_lt_of_le HS.out HGA.out.size, grew_trans HG.out HGA.out⟩
        case measure => simp only [intOf]; omega
      · have h0b : (q5 == 0) = false := by simpa using h0
        have HT := Lib.hid (HT1.out h0)
        have HGA : Hid (Grew wr (wr.alloc (.cells #[.int .i64 q1, .int .i64 q2, .int .i64 q3, .int .i64 q4, .int .i64 q5, .int .i64 q6, .int .i64 q7, .int .i64 q8, .int .i64 q9, .int .i64 q10, .int .i64 q11, .int .i64 q12] 38))) := grew_alloc _ _ _
        have HIA : Hid (OwnC (wr.alloc (.cells #[.int .i64 q1, .int .i64 q2, .int .i64 q3, .int .i64 q4, .int .i64 q5, .int .i64 q6, .int .i64 q7, .int .i64 q8, .int .i64 q9, .int .i64 q10, .int .i64 q11, .int .i64 q12] 38)) wr.heap.size [.int .i64 q1, .int .i64 q2, .int .i64 q3, .int .i64 q4, .int .i64 q5, .int .i64 q6, .int .i64 q7, .int .i64 q8, .int .i64 q9, .int .i64 q10, .int .i64 q11, .int .i64 q12]) := OwnC.new wr [.int .i64 q1, .int .i64 q2, .int .i64 q3, .int .i64 q4, .int .i64 q5, .int .i64 q6, .int .i64 q7, .int .i64 q8, .int .i64 q9, .int .i64 q10, .int .i64 q11, .int .i64 q12] _ _ rfl
        clear HSM HT0 HT1
        go_upto_region 6 with fail
        have HZA := Lib.hid (HZ.out.keep HGA.out)
        have HYA := Lib.hid (HY.out.keep HGA.out)
        have H1A := Lib.hid (H1.out.keep HGA.out)
        have H2A := Lib.hid (H2.out.keep HGA.out)
        have H3A := Lib.hid (H3.out.keep HGA.out)
        have b5 : (wr.alloc (.cells #[.int .i64 q1, .int .i64 q2, .int .i64 q3, .int .i64 q4, .int .i64 q5, .int .i64 q6, .int .i64 q7, .int .i64 q8, .int .i64 q9, .int .i64 q10, .int .i64 q11, .int .i64 q12] 38)).cell? ⟨g, j * 12 + 5, none⟩ = some (.int .i64 q6) := (grew_cell HGA.out (p := ⟨g, j * 12 + 5, none⟩) hg2).trans a5
        have b4 : (wr.alloc (.cells #[.int .i64 q1, .int .i64 q2, .int .i64 q3, .int .i64 q4, .int .i64 q5, .int .i64 q6, .int .i64 q7, .int .i64 q8, .int .i64 q9, .int .i64 q10, .int .i64 q11, .int .i64 q12] 38)).cell? ⟨g, j * 12 + 4, none⟩ = some (.int .i64 q5) := (grew_cell HGA.out (p := ⟨g, j * 12 + 4, none⟩) hg2).trans a4
        have g5 : (wr.alloc (.cells #[.int .i64 q1, .int .i64 q2, .int .i64 q3, .int .i64 q4, .int .i64 q5, .int .i64 q6, .int .i64 q7, .int .i64 q8, .int .i64 q9, .int .i64 q10, .int .i64 q11, .int .i64 q12] 38)).frozen? ⟨g, j * 12 + 5, none⟩ = false := (Below.frozen HGA.out (p := ⟨g, j * 12 + 5, none⟩) hg2).trans hfr5
        have g4 : (wr.alloc (.cells #[.int .i64 q1, .int .i64 q2, .int .i64 q3, .int .i64 q4, .int .i64 q5, .int .i64 q6, .int .i64 q7, .int .i64 q8, .int .i64 q9, .int .i64 q10, .int .i64 q11, .int .i64 q12] 38)).frozen? ⟨g, j * 12 + 4, none⟩ = false := (Below.frozen HGA.out (p := ⟨g, j * 12 + 4, none⟩) hg2).trans hfr4
        have HSA : Hid (w1.heap.size < (wr.alloc (.cells #[.int .i64 q1, .int .i64 q2, .int .i64 q3, .int .i64 q4, .int .i64 q5, .int .i64 q6, .int .i64 q7, .int .i64 q8, .int .i64 q9, .int .i64 q10, .int .i64 q11, .int .i64 q12] 38)).heap.size) := Nat.lt_of_lt_of_le HS.out HGA.out.size
        have HGW : Hid (Grew w (wr.alloc (.cells #[.int .i64 q1, .int .i64 q2, .int .i64 q3, .int .i64 q4, .int .i64 q5, .int .i64 q6, .int .i64 q7, .int .i64 q8, .int .i64 q9, .int .i64 q10, .int .i64 q11, .int .i64 q12] 38))) := grew_trans HG.out HGA.out
        have HNg : Hid (g ≠ wr.heap.size) := by show g ≠ _; omega
        generalize wr.alloc (.cells #[.int .i64 q1, .int .i64 q2, .int .i64 q3, .int .i64 q4, .int .i64 q5, .int .i64 q6, .int .i64 q7, .int .i64 q8, .int .i64 q9, .int .i64 q10, .int .i64 q11, .int .i64 q12] 38) = wa at *
        have e1 := HZA.out.at 1 _ rfl
        have e2 := HIA.out.at 4 _ rfl
        have HPA : Hid (∀ m u v, OwnC (wa.setCell ⟨g, m, none⟩ u) w1.heap.size [.slice B1 r.1.length d1, .slice (some ⟨g, 0, none⟩) n d2, .slice B3 r.2.2.length d3] ∧ OwnC (wa.setCell ⟨g, m, none⟩ u) wr.heap.size [.int .i64 q1, .int .i64 q2, .int .i64 q3, .int .i64 q4, .int .i64 q5, .int .i64 q6, .int .i64 q7, .int .i64 q8, .int .i64 q9, .int .i64 q10, .int .i64 q11, .int .i64 q12]
            ∧ OwnC ((wa.setCell ⟨g, m, none⟩ u).setCell ⟨g, j * 12 + 4, none⟩ v) w1.heap.size [.slice B1 r.1.length d1, .slice (some ⟨g, 0, none⟩) n d2, .slice B3 r.2.2.length d3] ∧ OwnC ((wa.setCell ⟨g, m, none⟩ u).setCell ⟨g, j * 12 + 4, none⟩ v) wr.heap.size [.int .i64 q1, .int .i64 q2, .int .i64 q3, .int .i64 q4, .int .i64 q5, .int .i64 q6, .int .i64 q7, .int .i64 q8, .int .i64 q9, .int .i64 q10, .int .i64 q11, .int .i64 q12]) := fun m u v =>
          ⟨HZA.out.other _ _ HGB2.out, HIA.out.other _ _ HNg.out, (HZA.out.other _ _ HGB2.out).other _ _ HGB2.out, (HIA.out.other _ _ HNg.out).other _ _ HNg.out⟩
        clear a0 a1 a2 a3 a4 a5 a6 a7 a8 a9 a10 a11 z1
        have HN1 : Hid (OwnE enIn (((wa.setCell ⟨g, j * 12 + 5, none⟩ (.int .i64 q5)).setCell ⟨g, j * 12 + 4, none⟩ (.int .i64 0)).drew) (w.heap.size + 2) 38 (.slice (some ⟨g, 0, none⟩) n d2) (preL turnIn r.2.1 (j + 1))) := by
          have k1 := H2A.out.put1 (HPL.out j).symm j 5 (.int .i64 q5) ((q1, q2, q3, q4, q5, q5), (q7, q8, q9, q10, q11, q12)) hjp (by decide) (by rw [HGT.out]; rfl)
          have k2 := k1.put1 (by rw [List.length_set]; exact (HPL.out j).symm) j 4 (.int .i64 0) ((q1, q2, q3, q4, 0, q5), (q7, q8, q9, q10, q11, q12)) (by rw [List.length_set]; exact hjp) (by decide) (by rw [List.getElem_set_self]; rfl)
          rw [List.set_set, ← HT.out, HST.out] at k2
          exact k2.keep (grew_drew (grew_refl _))
        have HB12 : Hid (∀ x, B1 = some x → x.block ≠ g) := fun x hx => HA12.out x ⟨g, 0, none⟩ hx rfl
        have HB23 : Hid (∀ x, B3 = some x → x.block ≠ g) := fun x hx => fun e => HA23.out ⟨g, 0, none⟩ x rfl hx e.symm
        have HM1 : Hid (OwnE enMb (((wa.setCell ⟨g, j * 12 + 5, none⟩ (.int .i64 q5)).setCell ⟨g, j * 12 + 4, none⟩ (.int .i64 0)).drew) (w.heap.size + 2) 33 (.slice B1 r.1.length d1) r.1) := ((H1A.out.otherB g (j * 12 + 5) _ HB12.out).otherB g (j * 12 + 4) _ HB12.out).keep (grew_drew (grew_refl _))
        have HS1 : Hid (OwnE enAs (((wa.setCell ⟨g, j * 12 + 5, none⟩ (.int .i64 q5)).setCell ⟨g, j * 12 + 4, none⟩ (.int .i64 0)).drew) (w.heap.size + 2) 42 (.slice B3 r.2.2.length d3) r.2.2) := ((H3A.out.otherB g (j * 12 + 5) _ HB23.out).otherB g (j * 12 + 4) _ HB23.out).keep (grew_drew (grew_refl _))
        have HY9 : Hid (OwnC (((wa.setCell ⟨g, j * 12 + 5, none⟩ (.int .i64 q5)).setCell ⟨g, j * 12 + 4, none⟩ (.int .i64 0)).drew) (w.heap.size + 1) [.slice none 0 0, .slice none 0 0, .slice none 0 0]) := ((HYA.out.other _ _ (by show g ≠ _; omega)).other _ _ (by show g ≠ _; omega)).drew
        have HZ9 : Hid (OwnC (((wa.setCell ⟨g, j * 12 + 5, none⟩ (.int .i64 q5)).setCell ⟨g, j * 12 + 4, none⟩ (.int .i64 0)).drew) w1.heap.size [.slice B1 r.1.length d1, .slice (some ⟨g, 0, none⟩) n d2, .slice B3 r.2.2.length d3]) := (HPA.out (j * 12 + 5) (.int .i64 q5) (.int .i64 0)).2.2.1.drew
        have HS9 : Hid (w1.heap.size < (((wa.setCell ⟨g, j * 12 + 5, none⟩ (.int .i64 q5)).setCell ⟨g, j * 12 + 4, none⟩ (.int .i64 0)).drew).heap.size) := HZ9.out.lt
        have HG9 : Hid (Grew w (((wa.setCell ⟨g, j * 12 + 5, none⟩ (.int .i64 q5)).setCell ⟨g, j * 12 + 4, none⟩ (.int .i64 0)).drew)) := grew_drew (grew_set (grew_set HGW.out _ (by show _ ≤ g; omega)) _ (by show _ ≤ g; omega))
        go_region_held3 (fun w' => w'.cell? ⟨w1.heap.size, 1, none⟩ = some (.slice (some ⟨g, 0, none⟩) n d2) ∧ w'.cell? ⟨wr.heap.size, 4, none⟩ = some (.int .i64 q5))
          (first
            | exact ⟨e1, e2⟩
            | exact ⟨(HPA.out _ _ (.int .i64 0)).1.at 1 _ rfl, (HPA.out _ _ (.int .i64 0)).2.1.at 4 _ rfl⟩
            | exact ⟨(HPA.out _ _ _).2.2.1.at 1 _ rfl, (HPA.out _ _ _).2.2.2.at 4 _ rfl⟩)
          (fail)
        clear e1 e2 b5 b4 g5 g4
        go_wp2
        go_roundw
        case rel => exact ⟨j + 1, by go_num, by omega, HM1.out, HN1.out, HS1.out, HY9.out, HZ9.out, HS9.out, HG9.out⟩
        case measure => simp only [intOf]; omega
    · obtain rfl : j = n := by omega
      have HLN : Hid (preL turnIn r.2.1 j = (turnF r).2.1) := pre_all _ _ _ (by rw [HN.out]; exact Nat.le_refl _)
      rw [HLN.out] at H2
      have HLM : Hid ((turnF r).2.1.length = j) := by have := HPL.out j; rw [HLN.out] at this; exact this
      have e0 := HZ.out.at 0 _ rfl
      have e2 := HZ.out.at 2 _ rfl
      have y0 : wr.cell? ⟨w.heap.size + 1, 0, none⟩ = some (.slice none 0 0) := HY.out.at 0 _ rfl
      have y1 : wr.cell? ⟨w.heap.size + 1, 1, none⟩ = some (.slice none 0 0) := HY.out.at 1 _ rfl
      have y3 : wr.cell? ⟨w.heap.size + 1, 2, none⟩ = some (.slice none 0 0) := HY.out.at 2 _ rfl
      have f0 : wr.frozen? ⟨w.heap.size + 1, 0, none⟩ = false := HY.out.fr 0 (by decide)
      have f1 : wr.frozen? ⟨w.heap.size + 1, 1, none⟩ = false := HY.out.fr 1 (by decide)
      have f2 : wr.frozen? ⟨w.heap.size + 1, 2, none⟩ = false := HY.out.fr 2 (by decide)
      go_wp2
      have HP := HY.out.all [Value.slice B1 r.1.length d1, .slice B2 j d2, .slice B3 r.2.2.length d3] rfl
      have HGP := grew_put (w.heap.size + 1) (Nat.le_succ _) [Value.slice B1 r.1.length d1, .slice B2 j d2, .slice B3 r.2.2.length d3] 0 _ HG.out
      have hb : w.heap.size + 1 < w.heap.size + 2 := by omega
      have Q1 := OwnE.put hb [Value.slice B1 r.1.length d1, .slice B2 j d2, .slice B3 r.2.2.length d3] 0 _ H1.out
      have Q2 := OwnE.put hb [Value.slice B1 r.1.length d1, .slice B2 j d2, .slice B3 r.2.2.length d3] 0 _ H2.out
      have Q3 := OwnE.put hb [Value.slice B1 r.1.length d1, .slice B2 j d2, .slice B3 r.2.2.length d3] 0 _ H3.out
      change bodyPost _ _ _ _ _ (putC wr (w.heap.size + 1) 0 [.slice B1 r.1.length d1, .slice B2 j d2, .slice B3 r.2.2.length d3])
      generalize putC wr (w.heap.size + 1) 0 [.slice B1 r.1.length d1, .slice B2 j d2, .slice B3 r.2.2.length d3] = w9 at *
      have z0 : w9.cell? ⟨w.heap.size + 1, 0, none⟩ = _ := HP.at 0 _ rfl
      have z1 : w9.cell? ⟨w.heap.size + 1, 1, none⟩ = _ := HP.at 1 _ rfl
      have z2 : w9.cell? ⟨w.heap.size + 1, 2, none⟩ = _ := HP.at 2 _ rfl
      refine bodyPost_ret (v := .agg #[.slice B1 r.1.length d1, .slice B2 j d2, .slice B3 r.2.2.length d3]) (by simp [results, Try.results22, go_sem, z0, z1, z2]) rfl ?_
      exact ⟨B1, B2, B3, d1, d2, d3, by rw [HLM.out]; rfl, ⟨Q1.mono (by omega), by rw [HLM.out]; exact Q2.mono (by omega), Q3.mono (by omega)⟩, HGP⟩
set_option maxRecDepth 100000 in
set_option maxHeartbeats 4000000 in
theorem rturn_any (r : Rl) (A1 A2 A3 : Option Addr) (n1 n2 n3 c1 c2 c3 : Nat) (w : World) (h : In3 w r A1 A2 A3 n1 n2 n3 c1 c2 c3) (hn : n1 ≤ 1000000 ∧ n2 ≤ 1000000 ∧ n3 ≤ 1000000) :
    Calls Try.prog 24 #[rlV A1 A2 A3 n1 n2 n3 c1 c2 c3] w (RollP (turnF r) w) := by
  have hl2 : r.2.1.length ≤ 1000000 := by rw [h.rows.i.len]; exact hn.2.1
  have CC := fun w' (g : Grew w w') => twinRoll_any r A1 A2 A3 n1 n2 n3 c1 c2 c3 w' (h.keep g) hn
  clear h
  dsimp only [rlV] at CC ⊢
  have HX0 : Hid (OwnC ((w.alloc (.cells #[.slice A1 n1 c1, .slice A2 n2 c2, .slice A3 n3 c3] 26)).alloc (.cells #[.slice none 0 0, .slice none 0 0, .slice none 0 0] 26)) (w.heap.size + 1) [.slice none 0 0, .slice none 0 0, .slice none 0 0]) := OwnC.new _ [.slice none 0 0, .slice none 0 0, .slice none 0 0] _ _ (by simp)
  go_enter Try.func24, Try.ntmps24
  go_wp2_with (go_at_call 10; ((with_reducible refine (CC _ (grew_trans (grew_alloc _ _ _) (grew_alloc _ _ _))).mono ?_); rintro e w1 ⟨B1, B2, B3, d1, d2, d3, rfl, ⟨ho, ha12, ha13, ha23⟩, hg⟩; have HO := Lib.hid ho; have HA12 := Lib.hid ha12; have HA23 := Lib.hid ha23; have HY1 := Lib.hid (HX0.out.keep hg); have HG1 : Hid (Grew w w1) := grew_trans (grew_trans (grew_alloc _ _ _) (grew_alloc _ _ _)) hg; have HSZ : Hid (w.heap.size + 2 ≤ w1.heap.size) := (by have := hg.size; simp at this; exact this); dsimp only [rlV]; clear ho ha12 ha13 ha23 hg CC))
  have HG2 : Hid (Grew w (w1.alloc (.cells #[.slice B1 r.1.length d1, .slice B2 r.2.1.length d2, .slice B3 r.2.2.length d3] 26))) := grew_trans HG1.out (grew_alloc _ _ _)
  have HZ2 : Hid (OwnC (w1.alloc (.cells #[.slice B1 r.1.length d1, .slice B2 r.2.1.length d2, .slice B3 r.2.2.length d3] 26)) w1.heap.size [.slice B1 r.1.length d1, .slice B2 r.2.1.length d2, .slice B3 r.2.2.length d3]) := OwnC.new w1 [.slice B1 r.1.length d1, .slice B2 r.2.1.length d2, .slice B3 r.2.2.length d3] _ _ rfl
  have HY2 := Lib.hid (HY1.out.keep (grew_alloc w1 #[.slice B1 r.1.length d1, .slice B2 r.2.1.length d2, .slice B3 r.2.2.length d3] 26))
  have HO2 := Lib.hid (HO.out.keep (grew_alloc w1 #[.slice B1 r.1.length d1, .slice B2 r.2.1.length d2, .slice B3 r.2.2.length d3] 26))
  have HGB : Hid (∀ x, B2 = some x → w.heap.size + 2 + 2 ≤ x.block ∧ x.block < w1.heap.size) := fun x hx => by
    have := HO.out.i.block x hx
    simp at this
    exact this
  generalize w1.alloc (.cells #[.slice B1 r.1.length d1, .slice B2 r.2.1.length d2, .slice B3 r.2.2.length d3] 26) = w2 at *
  have P1 : Hid (OwnE enMb w2 (w.heap.size + 2) 33 (.slice B1 r.1.length d1) r.1) := HO2.out.m.mono (by simp)
  have P2 : Hid (OwnE enIn w2 (w.heap.size + 2) 38 (.slice B2 r.2.1.length d2) r.2.1) := HO2.out.i.mono (by simp)
  have P3 : Hid (OwnE enAs w2 (w.heap.size + 2) 42 (.slice B3 r.2.2.length d3) r.2.2) := HO2.out.h.mono (by simp)
  have hpl := fun j => pre_len turnIn r.2.1 j
  have HPL := Lib.hid hpl
  clear HO HO2 hpl
  have y2 : w2.cell? ⟨w1.heap.size, 1, none⟩ = some (.slice B2 r.2.1.length d2) := HZ2.out.at 1 _ rfl
  go_wp2_with fail
  generalize hN : r.2.1.length = n at *
  have HN := Lib.hid hN
  clear hN
  go_loopw [4] (fun v wr => ∃ j : Nat, v = .int .i64 j ∧ j ≤ n ∧ Hid (OwnE enMb wr (w.heap.size + 2) 33 (.slice B1 r.1.length d1) r.1) ∧ Hid (OwnE enIn wr (w.heap.size + 2) 38 (.slice B2 n d2) (preL turnIn r.2.1 j)) ∧ Hid (OwnE enAs wr (w.heap.size + 2) 42 (.slice B3 r.2.2.length d3) r.2.2) ∧ Hid (OwnC wr (w.heap.size + 1) [.slice none 0 0, .slice none 0 0, .slice none 0 0]) ∧ Hid (OwnC wr w1.heap.size [.slice B1 r.1.length d1, .slice B2 n d2, .slice B3 r.2.2.length d3]) ∧ Hid (w1.heap.size < wr.heap.size) ∧ Hid (Grew w wr)) (fun v _ => n - (intOf v).toNat)
  case atStart => exact ⟨0, rfl, by omega, P1.out, by rw [pre_zero]; exact P2.out, P3.out, HY2.out, HZ2.out, HZ2.out.lt, HG2.out⟩
  case round =>
    obtain ⟨j, rfl, hj, H1, H2, H3, HY, HZ, HS, HG⟩ := hrel
    have z1 : wr.cell? ⟨w1.heap.size, 1, none⟩ = some (.slice B2 n d2) := HZ.out.at 1 _ rfl
    by_cases hlt : j < n
    · have hjl : j < r.2.1.length := by rw [HN.out]; exact hlt
      have hjp : j < (preL turnIn r.2.1 j).length := by rw [HPL.out]; exact hlt
      obtain ⟨g, rfl, hg1, hg2, hfr, hc⟩ := H2.out.at0In hjp
      rw [getD_at _ _ _ hjp, pre_get _ _ _ hjl] at hc
      obtain ⟨a0, a1, a2, a3, a4, a5, a6, a7, a8, a9, a10, a11⟩ := hc
      have HGB2 : Hid (g ≠ w1.heap.size) := by have := (HGB.out _ rfl).2; show g ≠ _; intro e; rw [e] at this; exact absurd this (Nat.lt_irrefl _)
      have HST := Lib.hid (pre_set turnIn r.2.1 j hjl)
      have HSM := Lib.hid (pre_same turnIn r.2.1 j hjl)
      have HGT := Lib.hid (pre_get turnIn r.2.1 j hjl)
      have HT0 := Lib.hid (@turn_zero r.2.1[j])
      have HT1 := Lib.hid (@turn_set r.2.1[j])
      have i0 : (0 : Int) ≤ (j : Int) := by omega
      have i1 : (j : Int) < (n : Int) := by omega
      have hfr4 := hfr (j * 12 + 4)
      have hfr5 := hfr (j * 12 + 5)
      clear hfr
      generalize r.2.1[j] = x at *
      obtain ⟨⟨q1, q2, q3, q4, q5, q6⟩, ⟨q7, q8, q9, q10, q11, q12⟩⟩ := x
      dsimp only at a0 a1 a2 a3 a4 a5 a6 a7 a8 a9 a10 a11 HT0 HT1
      by_cases h0 : q5 = 0
      · have HE : Hid (preL turnIn r.2.1 (j + 1) = preL turnIn r.2.1 j) := HSM.out (HT0.out h0)
        subst h0
        rw [← HE.out] at H2
        have HGA : Hid (Grew wr wr) := grew_refl _
        clear HST HSM HGT HT0 HT1 HE
        go_wp2
        go_roundw
        case rel => exact ⟨j + 1, by go_num, by omega, H1.out.keep HGA.out, H2.out.keep HGA.out, H3.out.keep HGA.out, HY.out.keep HGA.out, HZ.out.keep HGA.out, Nat.lt_of_lt_of_le HS.out HGA.out.size, grew_trans HG.out HGA.out⟩
        case measure => simp only [intOf]; omega
      · have h0b : (q5 == 0) = false := by simpa using h0
        have HT := Lib.hid (HT1.out h0)
        clear HSM HT0 HT1
        go_upto_region 6 with fail
        have H2A := H2
        have H1A := H1
        have H3A := H3
        have HPA : Hid (OwnC (wr.setCell ⟨g, j * 12 + 5, none⟩ (.int .i64 q5)) w1.heap.size [.slice B1 r.1.length d1, .slice (some ⟨g, 0, none⟩) n d2, .slice B3 r.2.2.length d3]) := HZ.out.other _ _ HGB2.out
        have k4 : (wr.setCell ⟨g, j * 12 + 5, none⟩ (.int .i64 q5)).cell? ⟨g, j * 12 + 4, none⟩ = some (.int .i64 q5) := (World.cell?_setCell_other _ _ _ _ (by intro e; simp only [Addr.mk.injEq] at e; omega)).trans a4
        have k5 : (wr.setCell ⟨g, j * 12 + 5, none⟩ (.int .i64 q5)).frozen? ⟨g, j * 12 + 4, none⟩ = false := by rw [World.frozen?_setCell]; exact hfr4
        have HN1 : Hid (OwnE enIn ((wr.setCell ⟨g, j * 12 + 5, none⟩ (.int .i64 q5)).drew.setCell ⟨g, j * 12 + 4, none⟩ (.int .i64 0)) (w.heap.size + 2) 38 (.slice (some ⟨g, 0, none⟩) n d2) (preL turnIn r.2.1 (j + 1))) := by
          have k1 := H2A.out.put1 (HPL.out j).symm j 5 (.int .i64 q5) ((q1, q2, q3, q4, q5, q5), (q7, q8, q9, q10, q11, q12)) hjp (by decide) (by rw [HGT.out]; rfl)
          have k1 := k1.keep (grew_drew (grew_refl _))
          have k2 := k1.put1 (by rw [List.length_set]; exact (HPL.out j).symm) j 4 (.int .i64 0) ((q1, q2, q3, q4, 0, q5), (q7, q8, q9, q10, q11, q12)) (by rw [List.length_set]; exact hjp) (by decide) (by rw [List.getElem_set_self]; rfl)
          rw [List.set_set, ← HT.out, HST.out] at k2
          exact k2
        have HB12 : Hid (∀ x, B1 = some x → x.block ≠ g) := fun x hx => HA12.out x ⟨g, 0, none⟩ hx rfl
        have HB23 : Hid (∀ x, B3 = some x → x.block ≠ g) := fun x hx => fun e => HA23.out ⟨g, 0, none⟩ x rfl hx e.symm
        have HM1 : Hid (OwnE enMb ((wr.setCell ⟨g, j * 12 + 5, none⟩ (.int .i64 q5)).drew.setCell ⟨g, j * 12 + 4, none⟩ (.int .i64 0)) (w.heap.size + 2) 33 (.slice B1 r.1.length d1) r.1) := ((H1A.out.otherB g (j * 12 + 5) _ HB12.out).keep (grew_drew (grew_refl _))).otherB g (j * 12 + 4) _ HB12.out
        have HS1 : Hid (OwnE enAs ((wr.setCell ⟨g, j * 12 + 5, none⟩ (.int .i64 q5)).drew.setCell ⟨g, j * 12 + 4, none⟩ (.int .i64 0)) (w.heap.size + 2) 42 (.slice B3 r.2.2.length d3) r.2.2) := ((H3A.out.otherB g (j * 12 + 5) _ HB23.out).keep (grew_drew (grew_refl _))).otherB g (j * 12 + 4) _ HB23.out
        have HY9 : Hid (OwnC ((wr.setCell ⟨g, j * 12 + 5, none⟩ (.int .i64 q5)).drew.setCell ⟨g, j * 12 + 4, none⟩ (.int .i64 0)) (w.heap.size + 1) [.slice none 0 0, .slice none 0 0, .slice none 0 0]) := ((HY.out.other _ _ (by show g ≠ _; omega)).drew).other _ _ (by show g ≠ _; omega)
        have HZ9 : Hid (OwnC ((wr.setCell ⟨g, j * 12 + 5, none⟩ (.int .i64 q5)).drew.setCell ⟨g, j * 12 + 4, none⟩ (.int .i64 0)) w1.heap.size [.slice B1 r.1.length d1, .slice (some ⟨g, 0, none⟩) n d2, .slice B3 r.2.2.length d3]) := HPA.out.drew.other _ _ HGB2.out
        have HS9 : Hid (w1.heap.size < ((wr.setCell ⟨g, j * 12 + 5, none⟩ (.int .i64 q5)).drew.setCell ⟨g, j * 12 + 4, none⟩ (.int .i64 0)).heap.size) := HZ9.out.lt
        have HG9 : Hid (Grew w ((wr.setCell ⟨g, j * 12 + 5, none⟩ (.int .i64 q5)).drew.setCell ⟨g, j * 12 + 4, none⟩ (.int .i64 0))) := grew_set (grew_drew (grew_set HG.out _ (by show _ ≤ g; omega))) _ (by show _ ≤ g; omega)
        clear a0 a1 a2 a3 a6 a7 a8 a9 a10 a11
        go_region_held3 (fun w' => w'.cell? ⟨w1.heap.size, 1, none⟩ = some (.slice (some ⟨g, 0, none⟩) n d2) ∧ w'.cell? ⟨g, j * 12 + 4, none⟩ = some (.int .i64 q5))
          (first
            | exact ⟨z1, a4⟩
            | exact ⟨HPA.out.at 1 _ rfl, k4⟩)
          (fail)
        have m1 : (wr.setCell ⟨g, j * 12 + 5, none⟩ (.int .i64 q5)).drew.cell? ⟨w1.heap.size, 1, none⟩ = some (.slice (some ⟨g, 0, none⟩) n d2) := HPA.out.at 1 _ rfl
        have m2 : (wr.setCell ⟨g, j * 12 + 5, none⟩ (.int .i64 q5)).drew.cell? ⟨g, j * 12 + 4, none⟩ = some (.int .i64 q5) := k4
        have m3 : (wr.setCell ⟨g, j * 12 + 5, none⟩ (.int .i64 q5)).drew.frozen? ⟨g, j * 12 + 4, none⟩ = false := k5
        clear a4 a5 k4 k5 z1 hfr4 hfr5
        go_wp2
        go_roundw
        case rel => exact ⟨j + 1, by go_num, by omega, HM1.out, HN1.out, HS1.out, HY9.out, HZ9.out, HS9.out, HG9.out⟩
        case measure => simp only [intOf]; omega
    · obtain rfl : j = n := by omega
      have HLN : Hid (preL turnIn r.2.1 j = (turnF r).2.1) := pre_all _ _ _ (by rw [HN.out]; exact Nat.le_refl _)
      rw [HLN.out] at H2
      have HLM : Hid ((turnF r).2.1.length = j) := by have := HPL.out j; rw [HLN.out] at this; exact this
      have e0 := HZ.out.at 0 _ rfl
      have e2 := HZ.out.at 2 _ rfl
      have y0 : wr.cell? ⟨w.heap.size + 1, 0, none⟩ = some (.slice none 0 0) := HY.out.at 0 _ rfl
      have y1 : wr.cell? ⟨w.heap.size + 1, 1, none⟩ = some (.slice none 0 0) := HY.out.at 1 _ rfl
      have y3 : wr.cell? ⟨w.heap.size + 1, 2, none⟩ = some (.slice none 0 0) := HY.out.at 2 _ rfl
      have f0 : wr.frozen? ⟨w.heap.size + 1, 0, none⟩ = false := HY.out.fr 0 (by decide)
      have f1 : wr.frozen? ⟨w.heap.size + 1, 1, none⟩ = false := HY.out.fr 1 (by decide)
      have f2 : wr.frozen? ⟨w.heap.size + 1, 2, none⟩ = false := HY.out.fr 2 (by decide)
      go_wp2
      have HP := HY.out.all [Value.slice B1 r.1.length d1, .slice B2 j d2, .slice B3 r.2.2.length d3] rfl
      have HGP := grew_put (w.heap.size + 1) (Nat.le_succ _) [Value.slice B1 r.1.length d1, .slice B2 j d2, .slice B3 r.2.2.length d3] 0 _ HG.out
      have hb : w.heap.size + 1 < w.heap.size + 2 := by omega
      have Q1 := OwnE.put hb [Value.slice B1 r.1.length d1, .slice B2 j d2, .slice B3 r.2.2.length d3] 0 _ H1.out
      have Q2 := OwnE.put hb [Value.slice B1 r.1.length d1, .slice B2 j d2, .slice B3 r.2.2.length d3] 0 _ H2.out
      have Q3 := OwnE.put hb [Value.slice B1 r.1.length d1, .slice B2 j d2, .slice B3 r.2.2.length d3] 0 _ H3.out
      change bodyPost _ _ _ _ _ (putC wr (w.heap.size + 1) 0 [.slice B1 r.1.length d1, .slice B2 j d2, .slice B3 r.2.2.length d3])
      generalize putC wr (w.heap.size + 1) 0 [.slice B1 r.1.length d1, .slice B2 j d2, .slice B3 r.2.2.length d3] = w9 at *
      have z0 : w9.cell? ⟨w.heap.size + 1, 0, none⟩ = _ := HP.at 0 _ rfl
      have z1 : w9.cell? ⟨w.heap.size + 1, 1, none⟩ = _ := HP.at 1 _ rfl
      have z2 : w9.cell? ⟨w.heap.size + 1, 2, none⟩ = _ := HP.at 2 _ rfl
      refine bodyPost_ret (v := .agg #[.slice B1 r.1.length d1, .slice B2 j d2, .slice B3 r.2.2.length d3]) (by simp [results, Try.results24, go_sem, z0, z1, z2]) rfl ?_
      exact ⟨B1, B2, B3, d1, d2, d3, by rw [HLM.out]; rfl, ⟨Q1.mono (by omega), by rw [HLM.out]; exact Q2.mono (by omega), Q3.mono (by omega)⟩, HGP⟩
end Go.Proofs.Ytnbgbfbiieimgaa.NumK
namespace Go.Proofs.Ytnbgbfbiieimgaa.NumK
open Go.RowKit Go.ChangeShapes Go.WideShapes
set_option linter.unusedVariables false

/-! ### rolls among the arguments -/
abbrev spI : Sp Int := spInt .i64
abbrev spMb : Sp Mb := spPair spI (spPair spI spI)
abbrev spAs : Sp As := spPair spI (spPair spI (spPair spI spI))
abbrev spSh : Sp (List Int) := spArr 6 spI
abbrev spInA : Sp (Int × Int × Int × Int × Int × Int × List Int) := spPair spI (spPair spI (spPair spI (spPair spI (spPair spI (spPair spI spSh)))))
def toIn (x : Int × Int × Int × Int × Int × Int × List Int) : In :=
  ((x.1, x.2.1, x.2.2.1, x.2.2.2.1, x.2.2.2.2.1, x.2.2.2.2.2.1), (x.2.2.2.2.2.2.getD 0 0, x.2.2.2.2.2.2.getD 1 0, x.2.2.2.2.2.2.getD 2 0, x.2.2.2.2.2.2.getD 3 0, x.2.2.2.2.2.2.getD 4 0, x.2.2.2.2.2.2.getD 5 0))
theorem opens_i : Opens Try.prog 3 spI := opens_int Try.underlying3 (by kernel_rfl)
theorem opens_member : Opens Try.prog 33 spMb :=
  opens_struct Try.underlying33 (by kernel_rfl) (Fs.cons _ _ 0 rfl opens_i (Fs.cons _ _ 1 rfl opens_i (Fs.last _ 2 rfl opens_i)))
theorem opens_asset : Opens Try.prog 42 spAs :=
  opens_struct Try.underlying42 (by kernel_rfl) (Fs.cons _ _ 0 rfl opens_i (Fs.cons _ _ 1 rfl opens_i (Fs.cons _ _ 2 rfl opens_i (Fs.last _ 3 rfl opens_i))))
theorem opens_shifts : Opens Try.prog 36 spSh := opens_arr Try.underlying36 (by kernel_rfl) opens_i
theorem opens_instA : Opens Try.prog 38 spInA :=
  opens_struct Try.underlying38 (by kernel_rfl) (Fs.cons _ _ 0 rfl opens_i (Fs.cons _ _ 1 rfl opens_i (Fs.cons _ _ 2 rfl opens_i (Fs.cons _ _ 3 rfl opens_i (Fs.cons _ _ 4 rfl opens_i (Fs.cons _ _ 5 rfl opens_i (Fs.last _ 6 rfl opens_shifts)))))))

theorem sh_cells {w : World} {cs : List Value} {l : List Int} (h : spSh.rd w cs l) : cs = [.int .i64 (l.getD 0 0), .int .i64 (l.getD 1 0), .int .i64 (l.getD 2 0), .int .i64 (l.getD 3 0), .int .i64 (l.getD 4 0), .int .i64 (l.getD 5 0)] := by
  obtain ⟨h1, h2, h3⟩ := h
  have h2 : cs.length = 6 := h2
  have e : ∀ j (hj : j < 6), cs[j]'(by omega) = .int .i64 (l.getD j 0) := by
    intro j hj
    have h4 : ((cs.drop (j * 1)).take 1) = [.int .i64 l[j]] := (h3 j (by omega)).1
    rw [Nat.mul_one] at h4
    have h5 : ((cs.drop j).take 1)[0]? = some (.int .i64 l[j]) := by rw [h4]; rfl
    rw [List.getElem?_take, if_pos (by omega), List.getElem?_drop, Nat.add_zero, List.getElem?_eq_getElem (by omega)] at h5
    rw [Option.some.inj h5]
    simp [List.getD, show j < l.length by omega]
  obtain ⟨a, b, c, d, x, y, rfl⟩ : ∃ a b c d x y, cs = [a, b, c, d, x, y] := by
    match cs, h2 with
    | [a, b, c, d, x, y], _ => exact ⟨a, b, c, d, x, y, rfl⟩
  · have e0 : a = _ := e 0 (by omega); have e1 : b = _ := e 1 (by omega); have e2 : c = _ := e 2 (by omega); have e3 : d = _ := e 3 (by omega); have e4 : x = _ := e 4 (by omega); have e5 : y = _ := e 5 (by omega)
    rw [e0, e1, e2, e3, e4, e5]
theorem in_cells {w : World} {cs : List Value} {a} (h : spInA.rd w cs a) : cs = enIn.cs (toIn a) := by
  obtain ⟨c1, d1, rfl, ⟨rfl, _⟩, c2, d2, rfl, ⟨rfl, _⟩, c3, d3, rfl, ⟨rfl, _⟩, c4, d4, rfl, ⟨rfl, _⟩, c5, d5, rfl, ⟨rfl, _⟩, c6, d6, rfl, ⟨rfl, _⟩, hs⟩ := h
  have := sh_cells hs
  subst this
  rfl
def spIn : Sp In := spMap toIn spInA
theorem opens_inst : Opens Try.prog 38 spIn := opens_map toIn opens_instA
theorem in_rd {w : World} {cs : List Value} {a : In} (h : spIn.rd w cs a) : cs = enIn.cs a := by
  obtain ⟨x, hx, rfl⟩ := h
  exact in_cells hx
theorem mb_rd {w : World} {cs : List Value} {a : Mb} (h : spMb.rd w cs a) : cs = enMb.cs a := by
  obtain ⟨c1, d1, rfl, ⟨rfl, _⟩, c2, d2, rfl, ⟨rfl, _⟩, rfl, _⟩ := h
  rfl
theorem as_rd {w : World} {cs : List Value} {a : As} (h : spAs.rd w cs a) : cs = enAs.cs a := by
  obtain ⟨c1, d1, rfl, ⟨rfl, _⟩, c2, d2, rfl, ⟨rfl, _⟩, c3, d3, rfl, ⟨rfl, _⟩, rfl, _⟩ := h
  rfl
theorem rowE_of {α : Type} {A : Sp α} {E : En α} (hs : E.size = A.size) (hf : ∀ w cs a, A.rd w cs a → cs = E.cs a) {w : World} {ad : Option Addr} {n : Nat} {l : List α} (h : Row A w ad n l) : RowE E w ad n l := by
  have := Row.imp (A := A) (B := E.sp) (fun x => x) hs (fun cs a hr => hf w cs a hr) h
  rwa [List.map_id'] at this
theorem inst_of {w : World} {cs : Array Value} {a : In} (h : spIn.rd w cs.toList a) : Value.agg cs = vIn a := by
  have := in_rd h
  congr 1
  exact Array.toList_inj.1 (by rw [this]; rfl)
theorem asset_of {w : World} {cs : Array Value} {a : As} (h : spAs.rd w cs.toList a) : Value.agg cs = vAs a := by
  have := as_rd h
  congr 1
  exact Array.toList_inj.1 (by rw [this]; rfl)

abbrev spRl : Sp Rl := spPair (spSlice spMb) (spPair (spSlice spIn) (spSlice spAs))
theorem opens_members : Opens Try.prog 22 (spSlice spMb) := opens_slice Try.underlying22 (by kernel_rfl) opens_member (by decide)
theorem opens_insts : Opens Try.prog 23 (spSlice spIn) := opens_slice Try.underlying23 (by kernel_rfl) opens_inst (by decide)
theorem opens_assets : Opens Try.prog 24 (spSlice spAs) := opens_slice Try.underlying24 (by kernel_rfl) opens_asset (by decide)
theorem opens_roll : Opens Try.prog 26 spRl :=
  opens_struct Try.underlying26 (by kernel_rfl) (Fs.cons _ _ 0 rfl opens_members (Fs.cons _ _ 1 rfl opens_insts (Fs.last _ 2 rfl opens_assets)))
theorem roll_of {w : World} {cs : Array Value} {r : Rl} (h : spRl.rd w cs.toList r) : ∃ A1 A2 A3 n1 n2 n3 c1 c2 c3, Value.agg cs = rlV A1 A2 A3 n1 n2 n3 c1 c2 c3 ∧ In3 w r A1 A2 A3 n1 n2 n3 c1 c2 c3 := by
  obtain ⟨x1, y1, e, ⟨A1, n1, c1, rfl, hr1, hk1, hl1, hm1⟩, x2, y2, rfl, ⟨A2, n2, c2, rfl, hr2, hk2, hl2, hm2⟩, A3, n3, c3, rfl, hr3, hk3, hl3, hm3⟩ := h
  unfold maxLen at hm1 hm2 hm3
  refine ⟨A1, A2, A3, n1, n2, n3, c1, c2, c3, ?_, ⟨rowE_of rfl (fun _ _ _ => mb_rd) hr1, rowE_of rfl (fun _ _ _ => in_rd) hr2, rowE_of rfl (fun _ _ _ => as_rd) hr3⟩, hk1, hk2, hk3, ⟨hl1, by omega⟩, ⟨hl2, by omega⟩, ⟨hl3, by omega⟩⟩
  congr 1
  exact Array.toList_inj.1 (by rw [e]; rfl)
theorem opens_ints : Opens Try.prog 27 (spSlice spI) := opens_slice Try.underlying27 (by kernel_rfl) opens_i (by decide)
theorem ints_of_spec {w : World} {A : Option Addr} {n : Nat} {l : List Int} (h : Row spI w A n l) : Ints w A n l :=
  ints_of_E (rowE_of (A := spI) (E := enInt) rfl (fun _ _ _ hr => hr.1) h)

/-! ### acts -/
abbrev Act11 := Int × Int × Int × In × As
def enAct : En Act11 := ⟨19, fun x => .int .i64 x.1 :: .int .i64 x.2.1 :: .int .i64 x.2.2.1 :: (enIn.cs x.2.2.2.1 ++ enAs.cs x.2.2.2.2), fun _ => rfl, fun a v hv => by
  simp [enIn, enAs] at hv
  rcases hv with rfl | rfl | rfl | rfl | rfl | rfl | rfl | rfl | rfl | rfl | rfl | rfl | rfl | rfl | rfl | rfl | rfl | rfl | rfl <;> rfl, by decide⟩
abbrev spAct : Sp Act11 := spPair spI (spPair spI (spPair spI (spPair spIn spAs)))
theorem opens_act : Opens Try.prog 64 spAct :=
  opens_struct Try.underlying64 (by kernel_rfl) (Fs.cons _ _ 0 rfl opens_i (Fs.cons _ _ 1 rfl opens_i (Fs.cons _ _ 2 rfl opens_i (Fs.cons _ _ 3 rfl opens_inst (Fs.last _ 15 rfl opens_asset)))))
theorem opens_acts : Opens Try.prog 61 (spSlice spAct) := opens_slice Try.underlying61 (by kernel_rfl) opens_act (by decide)
theorem act_rd {w : World} {cs : List Value} {a : Act11} (h : spAct.rd w cs a) : cs = enAct.cs a := by
  obtain ⟨c1, d1, rfl, ⟨rfl, _⟩, c2, d2, rfl, ⟨rfl, _⟩, c3, d3, rfl, ⟨rfl, _⟩, c4, c5, rfl, h4, h5⟩ := h
  rw [in_rd h4, as_rd h5]
  rfl
theorem acts_of {w : World} {A : Option Addr} {n : Nat} {l : List Act11} (h : Row spAct w A n l) : RowE enAct w A n l := rowE_of rfl (fun _ _ _ => act_rd) h

/-! ### Heavy -/
def heavyR (n1 n2 n3 : Nat) : Bool := decide (n1 > 100) || (decide (n2 > 100) || decide (n3 > 100))
set_option maxRecDepth 100000 in
theorem heavy11_any (A1 A2 A3 : Option Addr) (n1 n2 n3 c1 c2 c3 : Nat) (w : World) :
    Calls Try.prog 9 #[rlV A1 A2 A3 n1 n2 n3 c1 c2 c3] w fun e w' => e = .returned (.bool (heavyR n1 n2 n3)) ∧ Grew w w' := by
  have HH : Hid (heavyR n1 n2 n3 = (decide (n1 > 100) || (decide (n2 > 100) || decide (n3 > 100)))) := rfl
  generalize heavyR n1 n2 n3 = H at *
  dsimp only [rlV]
  by_cases h1 : n1 > 100
  · have HF : Hid (H = true) := by show _ = _; rw [HH.out, decide_eq_true h1]; rfl
    have j1 : (n1 : Int) > 100 := by omega
    go_enter Try.func9, Try.ntmps9
    go_wp2
    go_ret
    exact ⟨ret_b HF.out.symm, grew_alloc _ _ _⟩
  · have j1 : ¬ (n1 : Int) > 100 := by omega
    by_cases h2 : n2 > 100
    · have HF : Hid (H = true) := by show _ = _; rw [HH.out, decide_eq_true h2]; simp
      have j2 : (n2 : Int) > 100 := by omega
      go_enter Try.func9, Try.ntmps9
      go_wp2
      go_ret
      exact ⟨ret_b HF.out.symm, grew_alloc _ _ _⟩
    · have j2 : ¬ (n2 : Int) > 100 := by omega
      by_cases h3 : n3 > 100
      · have HF : Hid (H = true) := by show _ = _; rw [HH.out, decide_eq_true h3]; simp
        have j3 : (n3 : Int) > 100 := by omega
        go_enter Try.func9, Try.ntmps9
        go_wp2
        go_ret
        exact ⟨ret_b HF.out.symm, grew_alloc _ _ _⟩
      · have HF : Hid (H = false) := by show _ = _; rw [HH.out, decide_eq_false h1, decide_eq_false h2, decide_eq_false h3]; rfl
        have j3 : ¬ (n3 : Int) > 100 := by omega
        go_enter Try.func9, Try.ntmps9
        go_wp2
        go_ret
        exact ⟨ret_b HF.out.symm, grew_alloc _ _ _⟩
end Go.Proofs.Ytnbgbfbiieimgaa.NumK
