/- Dues: who, the currency, the amount. -/
import Derived.Test.YtlmnbafklefmcaaRG1
import Derived.Test.YtlmnbafklefmcaaRG4
import Derived.Test.YtlmnbafklefmcaaRG2
import Derived.Test.YtlmnbafklefmcaaRG3
import Derived.Deep.Slices
namespace Go.Proofs.Ytlmnbafklefmcaa.NumK

abbrev Du := Int × Int × Int
abbrev du0 : Du := (0, 0, 0)
end Go.Proofs.Ytlmnbafklefmcaa.NumK
namespace Go.Proofs.Ytlmnbafklefmcaa.NumK
open Go.RowKit
set_option linter.unusedVariables false

theorem OwnE.setO {α : Type} {E : En α} {w : World} {base : Nat} {t : TypeId} {v : Value} {l : List α} (h : OwnE E w base t v l) (b i : Nat) (u : Value) (hne : ∀ g, v.ownBlock = some g → g ≠ b) : OwnE E (w.setCell ⟨b, i, none⟩ u) base t v l := by
  obtain ⟨hl, h⟩ := h
  refine ⟨hl, ?_⟩
  rcases h with h | ⟨g, cap, cur, hv, hb, hh, r⟩
  · exact Or.inl h
  · refine Or.inr ⟨g, cap, cur, hv, hb, ?_, r⟩
    rw [Below.heap_setCell _ _ _ _ (hne g (by rw [hv]; rfl))]
    exact hh
theorem OwnC.same {w w' : World} {b : Nat} {cs : List Value} (h : OwnC w b cs) (hs : w'.heap[b]? = w.heap[b]?) (hz : w.heap.size ≤ w'.heap.size) : OwnC w' b cs :=
  ⟨Nat.lt_of_lt_of_le h.lt hz, fun i hi => (World.cell?_of_block (w := w) (a := ⟨b, i, none⟩) hs).trans (h.c i hi), fun i hi => (World.frozen?_of_block (w := w) (a := ⟨b, i, none⟩) hs).trans (h.f i hi)⟩
theorem OwnC.grown {w w' : World} {b : Nat} {cs : List Value} {row : Option Nat} (h : OwnC w b cs) (hg : w.grownBy w' row) (hne : some b ≠ row) : OwnC w' b cs :=
  h.same (hg.block b h.lt hne) hg.size

section
variable {α β : Type} {E : En α} {F : En β} {w w' : World} {base : Nat} {s t : TypeId} {va vb : Value} {la : List α} {lb : List β} {ops : Array Oper} {rest : List Oper} {o : Oper} {a : Act} {Q : Exit → Act → World → Prop}
theorem Two.setO (h : Two E F w base s t va vb la lb) (b i : Nat) (u : Value) (h1 : ∀ g, va.ownBlock = some g → g ≠ b) (h2 : ∀ g, vb.ownBlock = some g → g ≠ b) : Two E F (w.setCell ⟨b, i, none⟩ u) base s t va vb la lb := ⟨h.a.setO b i u h1, h.b.setO b i u h2, h.ne⟩
end
end Go.Proofs.Ytlmnbafklefmcaa.NumK
namespace Go.Proofs.Ytlmnbafklefmcaa.NumK
open Go.RowKit
set_option linter.unusedVariables false

/-- From w5 on: two rows grow, and a block bm turns; what else stood at w5 stands. -/
structure Grow2 {α β : Type} (E : En α) (F : En β) (w w5 wr : World) (s t : TypeId) (bm : Nat) (vs : List Value) (va vb : Value) (la : List α) (lb : List β) : Prop where
  two : Two E F wr w5.heap.size s t va vb la lb
  cm : OwnC wr bm vs
  gr : Grew w wr
  low : ∀ k, k < w5.heap.size → k ≠ bm → wr.heap[k]? = w5.heap[k]?
  sz : w5.heap.size ≤ wr.heap.size
  nm : bm < w5.heap.size ∧ w.heap.size ≤ bm
section
variable {α β : Type} {E : En α} {F : En β} {w w5 wr w2 : World} {s t : TypeId} {bm : Nat} {vs : List Value} {va vb v' : Value} {la la' : List α} {lb lb' : List β}
theorem Grow2.start (h : OwnC w5 bm vs) (g : Grew w w5) (hb : w.heap.size ≤ bm) : Grow2 E F w w5 w5 s t bm vs (.slice none 0 0) (.slice none 0 0) [] [] :=
  ⟨Two.nil _ _ _ _ _ _, h, g, fun _ _ _ => rfl, Nat.le_refl _, ⟨h.lt, hb⟩⟩
theorem Grow2.keep (h : Grow2 E F w w5 wr s t bm vs va vb la lb) (g : Grew wr w2) : Grow2 E F w w5 w2 s t bm vs va vb la lb :=
  ⟨h.two.keep g, h.cm.keep g, grew_trans h.gr g, fun k hk hn => (g.block k (Nat.lt_of_lt_of_le hk h.sz)).trans (h.low k hk hn), Nat.le_trans h.sz g.size, h.nm⟩
theorem Grow2.set (h : Grow2 E F w w5 wr s t bm vs va vb la lb) (i : Nat) (u : Value) (hi : i < vs.length) : Grow2 E F w w5 (wr.setCell ⟨bm, i, none⟩ u) s t bm (vs.set i u) va vb la lb := by
  have hn := h.nm
  refine ⟨h.two.setO bm i u (fun g hg => by have := (World.ownsRow.lt h.two.a g hg).1; omega) (fun g hg => by have := (World.ownsRow.lt h.two.b g hg).1; omega), h.cm.set i u hi, grew_set h.gr u hn.2, fun k hk hne => (Below.heap_setCell _ _ _ _ (by show k ≠ bm; exact hne)).trans (h.low k hk hne), by rw [size_set]; exact h.sz, hn⟩
/-- What stood at w5 in another block. -/
theorem Grow2.own (h : Grow2 E F w w5 wr s t bm vs va vb la lb) {k : Nat} {cs : List Value} (hk : OwnC w5 k cs) (hne : k ≠ bm) : OwnC wr k cs := hk.same (h.low k hk.lt hne) h.sz
/-- Blocks made since are none of the rows'. -/
theorem Grow2.far (h : Grow2 E F w w5 wr s t bm vs va vb la lb) {k : Nat} (hk : wr.heap.size ≤ k) : some k ≠ va.ownBlock ∧ some k ≠ vb.ownBlock := h.two.far hk
theorem Grow2.rows (h : Grow2 E F w w5 wr s t bm vs va vb la lb) : OwnE E wr w.heap.size s va la ∧ OwnE F wr w.heap.size t vb lb := by
  have := h.nm
  exact ⟨h.two.a.mono (by omega), h.two.b.mono (by omega)⟩
end
end Go.Proofs.Ytlmnbafklefmcaa.NumK
namespace Go.Proofs.Ytlmnbafklefmcaa.NumK
open Go.RowKit Go.ChangeShapes Go.WideShapes

abbrev spAcct : Sp Ac := spPair (spInt .i64) (spPair (spInt .i64) (spInt .i64))
end Go.Proofs.Ytlmnbafklefmcaa.NumK
namespace Go.Proofs.Ytlmnbafklefmcaa.NumK
open Go.RowKit

set_option maxRecDepth 100000 in
theorem keepLegs_any (A B : Option Addr) (n m c d : Nat) (l r : List Lg) (w : World) (h : RowE enLg w A n l) (h2 : RowE enLg w B m r) (hn : n ≤ 1000000) :
    Calls Try.prog 17 #[.slice A n c, .slice B m d] w fun e w' => e = .returned (.bool (decide (l = r))) ∧ Grew w w' := by
  have HI := Lib.hid h
  have HJ := Lib.hid h2
  have HL := Lib.hid h.len
  have HM := Lib.hid h2.len
  clear h h2
  by_cases hnm : n = m
  · subst hnm
    go_enter Try.func17, Try.ntmps17
    go_wp2
    go_loopw [5] (fun v5 wr => ∃ j : Nat, v5 = .int .i64 j ∧ j ≤ n ∧ Hid (l.take j = r.take j) ∧ Hid (Grew w wr)) (fun v5 _ => n - (intOf v5).toNat)
    case atStart => exact ⟨0, rfl, by omega, rfl, grew_refl _⟩
    case round =>
      obtain ⟨j, rfl, hj, HE, HG⟩ := hrel
      by_cases hlt : j < n
      · obtain ⟨b, o, rfl, hb, a1, a2, a3, a7⟩ := (HI.out.keep HG.out).lg hlt
        obtain ⟨b2, o2, rfl, hb2, a4, a5, a6, a8⟩ := (HJ.out.keep HG.out).lg hlt
        have HT1 := Lib.hid (take_snoc l j lg0 (by rw [HL.out]; exact hlt))
        have HT2 := Lib.hid (take_snoc r j lg0 (by rw [HM.out]; exact hlt))
        have x1 : ∀ p : GrewTo wr, p.to.cell? ⟨b, o + j * 4, none⟩ = _ := fun p => (grew_cell p.h (p := ⟨b, o + j * 4, none⟩) hb).trans a1
        have x2 : ∀ p : GrewTo wr, p.to.cell? ⟨b, o + j * 4 + 1, none⟩ = _ := fun p => (grew_cell p.h (p := ⟨b, o + j * 4 + 1, none⟩) hb).trans a2
        have x3 : ∀ p : GrewTo wr, p.to.cell? ⟨b, o + j * 4 + 2, none⟩ = _ := fun p => (grew_cell p.h (p := ⟨b, o + j * 4 + 2, none⟩) hb).trans a3
        have x4 : ∀ p : GrewTo wr, p.to.cell? ⟨b, o + j * 4 + 3, none⟩ = _ := fun p => (grew_cell p.h (p := ⟨b, o + j * 4 + 3, none⟩) hb).trans a7
        have y1 : ∀ p : GrewTo wr, p.to.cell? ⟨b2, o2 + j * 4, none⟩ = _ := fun p => (grew_cell p.h (p := ⟨b2, o2 + j * 4, none⟩) hb2).trans a4
        have y2 : ∀ p : GrewTo wr, p.to.cell? ⟨b2, o2 + j * 4 + 1, none⟩ = _ := fun p => (grew_cell p.h (p := ⟨b2, o2 + j * 4 + 1, none⟩) hb2).trans a5
        have y3 : ∀ p : GrewTo wr, p.to.cell? ⟨b2, o2 + j * 4 + 2, none⟩ = _ := fun p => (grew_cell p.h (p := ⟨b2, o2 + j * 4 + 2, none⟩) hb2).trans a6
        have y4 : ∀ p : GrewTo wr, p.to.cell? ⟨b2, o2 + j * 4 + 3, none⟩ = _ := fun p => (grew_cell p.h (p := ⟨b2, o2 + j * 4 + 3, none⟩) hb2).trans a8
        have CK := fun w => keepAcct_any (l.getD j lg0).1.1 (l.getD j lg0).1.2.1 (l.getD j lg0).1.2.2 (r.getD j lg0).1.1 (r.getD j lg0).1.2.1 (r.getD j lg0).1.2.2 w
        rw [sameA_iff] at CK
        clear a1 a2 a3 a4 a5 a6 a7 a8
        generalize hX : l.getD j lg0 = X at *
        generalize hY : r.getD j lg0 = Y at *
        have i0 : (0 : Int) ≤ (j : Int) := by omega
        have i1 : (j : Int) < (n : Int) := by omega
        unfold acV at CK
        by_cases hxy : X.1 = Y.1
        · rw [decide_eq_true hxy] at CK
          by_cases hz : X.2 = Y.2
          · have HN : Hid (l.take (j + 1) = r.take (j + 1)) := by show _ = _; rw [HT1.out, HT2.out, HE.out, Prod.ext hxy hz]
            rw [hz] at x4
            clear HT1 HT2 hxy hX hY hz
            generalize X.1.1 = q1 at *
            generalize X.1.2.1 = q2 at *
            generalize X.1.2.2 = q3 at *
            generalize Y.1.1 = p1 at *
            generalize Y.1.2.1 = p2 at *
            generalize Y.1.2.2 = p3 at *
            generalize Y.2 = p4 at *
            go_wp2_with fail
            refine wp_region_grew (by kernel_rfl) (by kernel_rfl) ?_
            repeat (go_big_quiet_step (with_reducible exact calls_grew (CK _)))
            refine wpQuiet_nil ?_
            intro w2 hw'
            have HG2 := Lib.hid (grew_trans HG.out (grew_of hw'))
            clear hw' x1 x2 x3 x4 y1 y2 y3 y4
            go_wp2
            go_roundw
            case rel => exact ⟨j + 1, by go_num, by omega, HN, HG2⟩
            case measure => simp only [intOf]; omega
          · have HN : Hid (false = decide (l = r)) := by
              show _ = _
              symm; rw [decide_eq_false_iff_not]; rintro rfl; exact hz (congrArg Prod.snd (hX.symm.trans hY))
            clear HT1 HT2 hxy hX hY
            generalize X.1.1 = q1 at *
            generalize X.1.2.1 = q2 at *
            generalize X.1.2.2 = q3 at *
            generalize Y.1.1 = p1 at *
            generalize Y.1.2.1 = p2 at *
            generalize Y.1.2.2 = p3 at *
            generalize Y.2 = p4 at *
            generalize X.2 = q4 at *
            have d4 : (q4 != p4) = true := by simpa using hz
            go_wp2_with fail
            refine wp_region_grew (by kernel_rfl) (by kernel_rfl) ?_
            repeat (go_big_quiet_step (with_reducible exact calls_grew (CK _)))
            refine wpQuiet_nil ?_
            intro w2 hw'
            have HG2 := Lib.hid (grew_trans HG.out (grew_of hw'))
            clear hw' x1 x2 x3 x4 y1 y2 y3 y4
            go_wp2
            go_ret
            exact ⟨ret_b HN.out, HG2.out⟩
        · rw [decide_eq_false hxy] at CK
          have HN : Hid (false = decide (l = r)) := by
            show _ = _
            symm; rw [decide_eq_false_iff_not]; rintro rfl; exact hxy (congrArg Prod.fst (hX.symm.trans hY))
          clear HT1 HT2 hxy hX hY
          generalize X.1.1 = q1 at *
          generalize X.1.2.1 = q2 at *
          generalize X.1.2.2 = q3 at *
          generalize Y.1.1 = p1 at *
          generalize Y.1.2.1 = p2 at *
          generalize Y.1.2.2 = p3 at *
          generalize Y.2 = p4 at *
          generalize X.2 = q4 at *
          go_wp2_with fail
          refine wp_region_grew (by kernel_rfl) (by kernel_rfl) ?_
          repeat (go_big_quiet_step (with_reducible exact calls_grew (CK _)))
          refine wpQuiet_nil ?_
          intro w2 hw'
          have HG2 := Lib.hid (grew_trans HG.out (grew_of hw'))
          clear hw' x1 x2 x3 x4 y1 y2 y3 y4
          go_wp2
          go_ret
          exact ⟨ret_b HN.out, HG2.out⟩
      · obtain rfl : j = n := by omega
        have HN : Hid (true = decide (l = r)) := by
          show _ = _
          have := HE.out
          rw [List.take_of_length_le (by rw [HL.out]; exact Nat.le_refl _), List.take_of_length_le (by rw [HM.out]; exact Nat.le_refl _)] at this
          symm; rw [decide_eq_true_iff]; exact this
        go_wp2
        go_ret
        exact ⟨ret_b HN.out, HG.out⟩
  · have d1 : ((n : Int) != (m : Int)) = true := by simp; omega
    have HN : Hid (false = decide (l = r)) := by
      show _ = _
      symm; rw [decide_eq_false_iff_not]; rintro rfl; exact hnm (HL.out.symm.trans HM.out)
    go_enter Try.func17, Try.ntmps17
    go_wp2
    go_ret
    exact ⟨ret_b HN.out, grew_refl _⟩

end Go.Proofs.Ytlmnbafklefmcaa.NumK
