/- Package auction: the comparison of two bids; the reference's ahead. -/
import Derived.Test.YtahioajpmlochaaRG2
import Derived.Laws.OwnMore
import Derived.Lib.AppendZerosOnto
import Derived.Lib.Walk
import Derived.Lib.SliceRun
import Derived.Deep.CutBlock
import Derived.Test.YtahioajpmlochaaRG1
namespace Go.Proofs.Ytahioajpmlochaa.NumK
open Go.RowKit
set_option linter.unusedVariables false

set_option maxRecDepth 100000 in
set_option maxHeartbeats 2000000 in
theorem bcmp_any (long : Bool) (N : Nat) (x y : B5) (w : World) (hN : w.cell? ⟨N, 0, none⟩ = some (.bool long)) (hl : N < w.heap.size) :
    Calls Try.prog 23 #[vBd x, vBd y, .pointer (some ⟨N, 0, none⟩)] w fun e w' => e = .returned (.int .i64 (cmpB long x y)) ∧ Grew w w' := by
  obtain ⟨x1, x2, x3, x4, x5⟩ := x
  obtain ⟨y1, y2, y3, y4, y5⟩ := y
  have HV : Hid (cmpB long (x1, x2, x3, x4, x5) (y1, y2, y3, y4, y5) = orI (if long then -cmpI x5 y5 else cmpI x5 y5) (cmpI x3 y3)) := rfl
  have C1 := fun w => compare_any x5 y5 w
  have C2 := fun w => compare_any x3 y3 w
  have hb : -1 ≤ cmpI x5 y5 ∧ cmpI x5 y5 ≤ 1 := by unfold cmpI; repeat' split <;> omega
  generalize cmpB long (x1, x2, x3, x4, x5) (y1, y2, y3, y4, y5) = V at *
  generalize cmpI x5 y5 = R1 at *
  generalize cmpI x3 y3 = R2 at *
  have C3 := fun (w : World) (R : Int) => or_any (some ⟨w.heap.size, 0, none⟩) 2 R R2 (w.alloc (.cells #[.int .i64 R, .int .i64 R2] 3)) (ints2' w R R2 _ _ rfl)
  obtain ⟨hb1, hb2⟩ := hb
  have e1 : IntKind.i64.wrap (-R1) = -R1 := by rw [IntKind.wrap_i64]; omega
  dsimp only [vBd]
  have HX : Hid (OwnC ((w.alloc (.cells #[.int .i64 x1, .int .i64 x2, .int .i64 x3, .int .i64 x4, .int .i64 x5] 31)).alloc (.cells #[.int .i64 y1, .int .i64 y2, .int .i64 y3, .int .i64 y4, .int .i64 y5] 31)) w.heap.size [.int .i64 x1, .int .i64 x2, .int .i64 x3, .int .i64 x4, .int .i64 x5]) := (OwnC.new w [.int .i64 x1, .int .i64 x2, .int .i64 x3, .int .i64 x4, .int .i64 x5] _ _ rfl).keep (grew_alloc _ _ _)
  have HY : Hid (OwnC ((w.alloc (.cells #[.int .i64 x1, .int .i64 x2, .int .i64 x3, .int .i64 x4, .int .i64 x5] 31)).alloc (.cells #[.int .i64 y1, .int .i64 y2, .int .i64 y3, .int .i64 y4, .int .i64 y5] 31)) (w.heap.size + 1) [.int .i64 y1, .int .i64 y2, .int .i64 y3, .int .i64 y4, .int .i64 y5]) := OwnC.new _ [.int .i64 y1, .int .i64 y2, .int .i64 y3, .int .i64 y4, .int .i64 y5] _ _ (by simp)
  have HG : Hid (Grew w ((w.alloc (.cells #[.int .i64 x1, .int .i64 x2, .int .i64 x3, .int .i64 x4, .int .i64 x5] 31)).alloc (.cells #[.int .i64 y1, .int .i64 y2, .int .i64 y3, .int .i64 y4, .int .i64 y5] 31))) := grew_trans (grew_alloc _ _ _) (grew_alloc _ _ _)
  have hL : ((w.alloc (.cells #[.int .i64 x1, .int .i64 x2, .int .i64 x3, .int .i64 x4, .int .i64 x5] 31)).alloc (.cells #[.int .i64 y1, .int .i64 y2, .int .i64 y3, .int .i64 y4, .int .i64 y5] 31)).cell? ⟨N, 0, none⟩ = some (.bool long) := (grew_cell HG.out (p := ⟨N, 0, none⟩) hl).trans hN
  clear hN
  go_enter Try.func23, Try.ntmps23
  go_upto_region 1 with (fail)
  generalize ((w.alloc (.cells #[.int .i64 x1, .int .i64 x2, .int .i64 x3, .int .i64 x4, .int .i64 x5] 31)).alloc (.cells #[.int .i64 y1, .int .i64 y2, .int .i64 y3, .int .i64 y4, .int .i64 y5] 31)) = w0 at *
  generalize w.heap.size + 1 = N1 at *
  have a1 : w0.cell? ⟨w.heap.size, 4, none⟩ = some (.int .i64 x5) := HX.out.at 4 _ rfl
  have a2 : w0.cell? ⟨w.heap.size, 2, none⟩ = some (.int .i64 x3) := HX.out.at 2 _ rfl
  have a3 : w0.cell? ⟨N1, 4, none⟩ = some (.int .i64 y5) := HY.out.at 4 _ rfl
  have a4 : w0.cell? ⟨N1, 2, none⟩ = some (.int .i64 y3) := HY.out.at 2 _ rfl
  generalize w.heap.size = N0 at *
  clear HX HY
  cases long
  · have HF : Hid (V = orI R1 R2) := HV.out
    clear HV
    have C3 := fun w => C3 w R1
    rw [← HF.out] at C3
    clear HF
    go_wp2_with (first
      | (go_at_call 24; ((with_reducible refine (C1 _).mono ?_); rintro e w1 ⟨rfl, rfl⟩))
      | (go_at_call 24; ((with_reducible refine (C2 _).mono ?_); rintro e w1 ⟨rfl, rfl⟩))
      | (go_at_call 25; ((with_reducible refine (C3 _).mono ?_); rintro e w1 ⟨rfl, rfl⟩)))
    go_ret
    exact ⟨rfl, grew_trans HG.out (grew_alloc _ _ _)⟩
  · have HF : Hid (V = orI (-R1) R2) := HV.out
    clear HV
    have C3 := fun w => C3 w (-R1)
    rw [← HF.out] at C3
    clear HF
    go_wp2_with (first
      | (go_at_call 24; ((with_reducible refine (C1 _).mono ?_); rintro e w1 ⟨rfl, rfl⟩))
      | (go_at_call 24; ((with_reducible refine (C2 _).mono ?_); rintro e w1 ⟨rfl, rfl⟩))
      | (go_at_call 25; ((with_reducible refine (C3 _).mono ?_); rintro e w1 ⟨rfl, rfl⟩)))
    go_ret
    exact ⟨rfl, grew_trans HG.out (grew_alloc _ _ _)⟩

set_option maxRecDepth 100000 in
set_option maxHeartbeats 2000000 in
theorem rahead_any (long : Bool) (x y : B5) (w : World) :
    Calls Try.prog 26 #[.bool long, vBd x, vBd y] w fun e w' => e = .returned (.bool (aheadB long x y)) ∧ Grew w w' := by
  obtain ⟨x1, x2, x3, x4, x5⟩ := x
  obtain ⟨y1, y2, y3, y4, y5⟩ := y
  have HV : Hid (aheadB long (x1, x2, x3, x4, x5) (y1, y2, y3, y4, y5) = if x5 = y5 then decide (x3 < y3) else (decide (x5 > y5) == long)) := rfl
  generalize aheadB long (x1, x2, x3, x4, x5) (y1, y2, y3, y4, y5) = V at *
  dsimp only [vBd]
  by_cases h1 : x5 = y5
  · have HF : Hid (V = decide (x3 < y3)) := by show _ = _; rw [HV.out, if_pos h1]
    have h2 : (x5 != y5) = false := by simp [h1]
    clear HV h1
    go_enter Try.func26, Try.ntmps26
    go_wp2
    go_ret
    exact ⟨ret_b HF.out.symm, grew_trans (grew_alloc _ _ _) (grew_alloc _ _ _)⟩
  · have HF : Hid (V = (decide (x5 > y5) == long)) := by show _ = _; rw [HV.out, if_neg h1]
    have h2 : (x5 != y5) = true := by simp [h1]
    clear HV h1
    go_enter Try.func26, Try.ntmps26
    go_wp2
    go_ret
    exact ⟨ret_b HF.out.symm, grew_trans (grew_alloc _ _ _) (grew_alloc _ _ _)⟩
end Go.Proofs.Ytahioajpmlochaa.NumK
namespace Go.Proofs.Ytahioajpmlochaa.NumK
open Go.RowKit
set_option linter.unusedVariables false

theorem OwnE.same {α : Type} {E : En α} {w w' : World} {base : Nat} {t : TypeId} {v : Value} {l : List α} (h : OwnE E w base t v l) (hs : ∀ k, base ≤ k → w'.heap[k]? = w.heap[k]?) : OwnE E w' base t v l := by
  obtain ⟨hl, h⟩ := h
  refine ⟨hl, ?_⟩
  rcases h with h | ⟨b, cap, cur, hv, hb, hh, r⟩
  · exact Or.inl h
  · exact Or.inr ⟨b, cap, cur, hv, hb, by rw [hs b hb]; exact hh, r⟩
theorem OwnE.set {α : Type} {E : En α} {w : World} {base : Nat} {t : TypeId} {v : Value} {l : List α} (h : OwnE E w base t v l) (b i : Nat) (u : Value) (hb : b < base) : OwnE E (w.setCell ⟨b, i, none⟩ u) base t v l :=
  h.same fun k hk => Below.heap_setCell _ _ _ _ (by show k ≠ b; omega)
theorem OwnE.put {α : Type} {E : En α} {base b : Nat} {t : TypeId} {v : Value} {l : List α} (hb : b < base) : ∀ (vs : List Value) (o : Nat) (w : World), OwnE E w base t v l → OwnE E (putC w b o vs) base t v l
  | [], _, _, h => h
  | u :: vs, o, w, h => OwnE.put hb vs (o + 1) _ (h.set b o u hb)
end Go.Proofs.Ytahioajpmlochaa.NumK
namespace Go.Proofs.Ytahioajpmlochaa.NumK
open Go.RowKit
set_option linter.unusedVariables false

/-- A block of the call's own: N cells that may be written. -/
def Slab (w : World) (g N : Nat) : Prop := g < w.heap.size ∧ ∀ k, k < N → (∃ v, w.cell? ⟨g, k, none⟩ = some v) ∧ w.frozen? ⟨g, k, none⟩ = false
theorem Slab.keep {w w' : World} {g N : Nat} (h : Slab w g N) (r : Grew w w') : Slab w' g N :=
  ⟨Nat.lt_of_lt_of_le h.1 r.size, fun k hk => by
    obtain ⟨⟨v, hv⟩, hf⟩ := h.2 k hk
    exact ⟨⟨v, (grew_cell r (p := ⟨g, k, none⟩) h.1).trans hv⟩, (Below.frozen r (p := ⟨g, k, none⟩) h.1).trans hf⟩⟩
theorem Slab.set {w : World} {g N : Nat} (h : Slab w g N) (b k : Nat) (x : Value) : Slab (w.setCell ⟨b, k, none⟩ x) g N :=
  ⟨by simpa [World.setCell] using h.1, fun i hi => by
    obtain ⟨⟨v, hv⟩, hf⟩ := h.2 i hi
    refine ⟨?_, by rw [World.frozen?_setCell]; exact hf⟩
    by_cases e : (⟨b, k, none⟩ : Addr) = ⟨g, i, none⟩
    · rw [e]; exact ⟨x, World.cell?_setCell_same _ _ _ hv⟩
    · exact ⟨v, by rw [World.cell?_setCell_other _ _ _ _ e]; exact hv⟩⟩
theorem OwnE.slab {α : Type} {E : En α} {w : World} {base : Nat} {t : TypeId} {v : Value} {l : List α} (h : OwnE E w base t v l) :
    ∃ A c, v = .slice A l.length c ∧ (l.length = 0 ∨ ∃ g, A = some ⟨g, 0, none⟩ ∧ base ≤ g ∧ Slab w g (l.length * E.size)) := by
  obtain ⟨hl, h⟩ := h
  rcases h with ⟨rfl, h0⟩ | ⟨g, cap, cur, rfl, hb, hh, hc, hm, hs, ht⟩
  · rw [h0]; exact ⟨none, 0, rfl, Or.inl rfl⟩
  · refine ⟨some ⟨g, 0, none⟩, cap, rfl, Or.inr ⟨g, rfl, hb, ?_, fun k hk => ⟨?_, ?_⟩⟩⟩
    · rcases Nat.lt_or_ge g w.heap.size with h1 | h1
      · exact h1
      · rw [Array.getElem?_eq_none h1] at hh; cases hh
    · rw [cell_of_row w g _ cur t (0, 0) hh]
      have hlt : k < cur.toList.length := by
        have e1 : (cur.toList.take (l.length * E.size)).length = l.length * E.size := by rw [ht, E.flat_len]
        rw [List.length_take] at e1; omega
      rw [← Array.getElem?_toList, List.getElem?_eq_getElem hlt]
      exact ⟨_, rfl⟩
    · unfold World.frozen?
      simp [hh]


theorem flat_set {α : Type} (E : En α) : ∀ (l : List α) (j i : Nat) (u : Value) (x : α) (h : j < l.length) (hi : i < E.size), E.cs x = (E.cs l[j]).set i u → (l.flatMap E.cs).set (j * E.size + i) u = (l.set j x).flatMap E.cs
  | [], j, i, u, x, h, hi, hx => by simp at h
  | y :: l, 0, i, u, x, h, hi, hx => by
    rw [List.set_cons_zero, List.flatMap_cons, List.flatMap_cons, Nat.zero_mul, Nat.zero_add, List.set_append_left _ _ (by rw [E.len]; exact hi), hx]
    rfl
  | y :: l, j + 1, i, u, x, h, hi, hx => by
    rw [List.set_cons_succ, List.flatMap_cons, List.flatMap_cons, List.set_append_right _ _ (by rw [E.len, Nat.succ_mul]; omega), E.len, show (j + 1) * E.size + i - E.size = j * E.size + i by rw [Nat.succ_mul]; omega, flat_set E l j i u x (by simpa using h) hi hx]
/-- One cell of an element. -/
theorem OwnE.put1 {α : Type} {E : En α} {w : World} {base : Nat} {t : TypeId} {g n c : Nat} {l : List α} (h : OwnE E w base t (.slice (some ⟨g, 0, none⟩) n c) l) (hn : n = l.length) (j i : Nat) (u : Value) (x : α) (hj : j < l.length) (hi : i < E.size) (hx : E.cs x = (E.cs l[j]).set i u) :
    OwnE E (w.setCell ⟨g, j * E.size + i, none⟩ u) base t (.slice (some ⟨g, 0, none⟩) n c) (l.set j x) := by
  subst hn
  have h2 := (World.ownsRow.stored h (j * E.size + i) u).1
  unfold OwnE
  rw [List.length_set, ← flat_set E l j i u x hj hi hx]
  exact h2
theorem OwnE.at0 {α : Type} {E : En α} {w : World} {base : Nat} {t : TypeId} {A : Option Addr} {n c : Nat} {l : List α} (h : OwnE E w base t (.slice A n c) l) (h0 : 0 < l.length) :
    ∃ g, A = some ⟨g, 0, none⟩ ∧ base ≤ g ∧ g < w.heap.size ∧ (∀ k, w.frozen? ⟨g, k, none⟩ = false) ∧ ∀ j (hj : j < l.length), ∀ i, i < E.size → w.cell? ⟨g, j * E.size + i, none⟩ = (E.cs l[j])[i]? := by
  have h' := h
  obtain ⟨hl, h⟩ := h
  rcases h with ⟨_, h1⟩ | ⟨g, cap, cur, e, hb, hh, hc, hm, hs, ht⟩
  · omega
  · cases e
    refine ⟨g, rfl, hb, ?_, fun k => ?_, fun j hj i hi => ?_⟩
    · rcases Nat.lt_or_ge g w.heap.size with h1 | h1
      · exact h1
      · rw [Array.getElem?_eq_none h1] at hh; cases hh
    · exact World.ownsRow.frozenAt h' k
    · have hlt : j * E.size + i < l.length * E.size := by
        have : (j + 1) * E.size ≤ l.length * E.size := Nat.mul_le_mul_right _ hj
        rw [Nat.succ_mul] at this; omega
      rw [World.ownsRow.cellAt h' _ hlt, E.flat_at l j hj i hi]

/-! ### what has been mapped so far -/
def preL {α : Type} (f : α → α) (l : List α) (j : Nat) : List α := (l.take j).map f ++ l.drop j
end Go.Proofs.Ytahioajpmlochaa.NumK
namespace Go.Proofs.Ytahioajpmlochaa.NumK
open Go.RowKit
set_option linter.unusedVariables false

theorem grew_size {w w' : World} (g : Grew w w') : w.heap.size ≤ w'.heap.size := g.size
end Go.Proofs.Ytahioajpmlochaa.NumK
namespace Go.Proofs.Ytahioajpmlochaa.NumK
open Go.RowKit
set_option linter.unusedVariables false

theorem OwnE.put5 {w : World} {base : Nat} {t : TypeId} {g n c : Nat} {l : List B5} (h : OwnE enB5 w base t (.slice (some ⟨g, 0, none⟩) n c) l) (hn : n = l.length) (j : Nat) (x : B5) (hj : j < l.length) :
    OwnE enB5 (put5 w g (j * 5) x) base t (.slice (some ⟨g, 0, none⟩) n c) (l.set j x) := by
  obtain ⟨x1, x2, x3, x4, x5⟩ := x
  generalize hy : l[j] = y
  obtain ⟨y1, y2, y3, y4, y5⟩ := y
  have h1 := h.put1 hn j 0 (.int .i64 x1) (x1, y2, y3, y4, y5) hj (by decide) (by rw [hy]; rfl)
  have h2 := h1.put1 (by rw [List.length_set]; exact hn) j 1 (.int .i64 x2) (x1, x2, y3, y4, y5) (by rw [List.length_set]; exact hj) (by decide) (by simp only [List.getElem_set_self]; rfl)
  have h3 := h2.put1 (by rw [List.length_set, List.length_set]; exact hn) j 2 (.int .i64 x3) (x1, x2, x3, y4, y5) (by rw [List.length_set, List.length_set]; exact hj) (by decide) (by simp only [List.getElem_set_self]; rfl)
  have h4 := h3.put1 (by rw [List.length_set, List.length_set, List.length_set]; exact hn) j 3 (.int .i64 x4) (x1, x2, x3, x4, y5) (by rw [List.length_set, List.length_set, List.length_set]; exact hj) (by decide) (by simp only [List.getElem_set_self]; rfl)
  have h5 := h4.put1 (by rw [List.length_set, List.length_set, List.length_set, List.length_set]; exact hn) j 4 (.int .i64 x5) (x1, x2, x3, x4, x5) (by rw [List.length_set, List.length_set, List.length_set, List.length_set]; exact hj) (by decide) (by simp only [List.getElem_set_self]; rfl)
  rw [List.set_set, List.set_set, List.set_set, List.set_set] at h5
  exact h5
/-- The row while a bid is put into its place: a hole at k. -/
def holeL (o : List B5) (k : Nat) (y : B5) : List B5 := o.take k ++ y :: o.drop k
theorem hole_len (o : List B5) (k : Nat) (y : B5) (hk : k ≤ o.length) : (holeL o k y).length = o.length + 1 := by unfold holeL; rw [List.length_append, List.length_cons, List.length_take, List.length_drop]; omega
theorem hole_start (o : List B5) (x : B5) : o ++ [x] = holeL o o.length x := by unfold holeL; simp
theorem hole_set (o : List B5) (k : Nat) (y z : B5) (hk : k ≤ o.length) : (holeL o k y).set k z = holeL o k z := by
  unfold holeL
  rw [List.set_append_right _ _ (by rw [List.length_take]; omega), List.length_take, show k - min k o.length = 0 by omega, List.set_cons_zero]
theorem hole_down (o : List B5) (k : Nat) (hk : k < o.length) : holeL o (k + 1) (o.getD k bi0) = holeL o k (o.getD k bi0) := by
  unfold holeL
  rw [List.take_succ_eq_append_getElem hk, List.append_assoc, getD_at o bi0 k hk]
  congr 1
  rw [List.singleton_append, List.drop_eq_getElem_cons hk]
theorem hole_at (o : List B5) (k j : Nat) (y : B5) (hj : j < k) (hk : k ≤ o.length) : (holeL o k y).getD j bi0 = o.getD j bi0 := by
  unfold holeL
  rw [getD_at _ bi0 j (by rw [List.length_append, List.length_take]; omega), getD_at o bi0 j (by omega), List.getElem_append_left (by rw [List.length_take]; omega), List.getElem_take]
theorem ordB_take (long : Bool) (l : List B5) (i : Nat) (h : i < l.length) : ordB long (l.take (i + 1)) = insF (keyB long) (l.getD i bi0) (ordB long (l.take i)) := by
  unfold ordB
  rw [List.take_succ_eq_append_getElem h, ordF_snoc, getD_at l bi0 i h]

theorem OwnE.atD {w : World} {base : Nat} {t : TypeId} {g n c : Nat} {l : List B5} (h : OwnE enB5 w base t (.slice (some ⟨g, 0, none⟩) n c) l) (k : Nat) (hk : k < l.length) : CB5 w g (k * 5) (l.getD k bi0) ∧ FZ5 w g (k * 5) ∧ g < w.heap.size := by
  obtain ⟨g2, e, _, hgs, hfz, hcs⟩ := h.at0 (by omega)
  cases e
  have hc := fun j hj => hcs k hk j hj
  rw [← getD_at l bi0 k hk] at hc
  exact ⟨cb5_of hc, ⟨hfz _, hfz _, hfz _, hfz _, hfz _⟩, hgs⟩
theorem grew_put5 {w w1 : World} {g : Nat} (hb : w.heap.size ≤ g) (o : Nat) (x : B5) (h : Grew w w1) : Grew w (put5 w1 g o x) := by
  rw [put5_eq]; exact grew_put g hb _ _ _ h
theorem getMem (l : List B5) (i : Nat) (h : i < l.length) : l.getD i bi0 ∈ l := getD_mem l bi0 i h

set_option maxRecDepth 100000 in
set_option maxHeartbeats 4000000 in
theorem raorder_any (long : Bool) (A : Option Addr) (n c : Nat) (l : List B5) (w : World) (h : RowE enB5 w A n l) (hn : n ≤ 100000) (hf : ∀ b ∈ l, in64 b.2.2.1) :
    Calls Try.prog 11 #[.bool long, .slice A n c] w fun e w' => ∃ v, e = .returned v ∧ OwnE enB5 w' w.heap.size 31 v (ordB long l) ∧ Grew w w' := by
  have HI := Lib.hid h
  have HL := Lib.hid h.len
  have HF := Lib.hid hf
  clear h hf
  go_enter Try.func11, Try.ntmps11
  go_wp2
  go_loopw [5, 6, 7] (fun v5 v6 v7 wr => ∃ i : Nat, v6 = .int .i64 i ∧ i ≤ n ∧ Hid (OwnE enB5 wr w.heap.size 31 v5 (ordB long (l.take i))) ∧ Hid (Grew w wr)) (fun _ v6 _ _ => n - (intOf v6).toNat)
  case atStart => exact ⟨0, rfl, by omega, OwnE.nil _ _ _ _, grew_refl _⟩
  case round =>
    obtain ⟨i, rfl, hi, HT, HG⟩ := hrel
    by_cases hlt : i < n
    · obtain ⟨b, ob, rfl, hb, hc⟩ := (HI.out.keep HG.out).rB5 hlt
      have HRW := fun (wx : World) (g : Grew w wx) => (HI.out.keep g).rB5 hlt
      obtain ⟨a0, a1, a2, a3, a4⟩ := hc i hlt
      have HON : Hid (ordB long (l.take (i + 1)) = insF (keyB long) (l.getD i bi0) (ordB long (l.take i))) := ordB_take long l i (by rw [HL.out]; exact hlt)
      have HDE : Hid (Desc (keyB long) (ordB long (l.take i))) := ordF_desc _ _
      have HOF : Hid (∀ y ∈ ordB long (l.take i), in64 y.2.2.1) := fun y hy => HF.out y (List.mem_of_mem_take ((ordF_mem _ _ _).1 hy))
      have HXF : Hid (in64 (l.getD i bi0).2.2.1) := HF.out _ (getMem l i (by rw [HL.out]; exact hlt))
      have hol : (ordB long (l.take i)).length = i := by unfold ordB; rw [ordF_len, List.length_take, HL.out]; omega
      have HCX : Hid (∀ wx, Grew w wx → CB5 wx b (ob + i * 5) (l.getD i bi0)) := fun wx g => by
        obtain ⟨b2, ob2, e, hb2, hc2⟩ := HRW wx g
        cases e
        exact hc2 i hlt
      have hbw : b < w.heap.size := by
        obtain ⟨b2, ob2, e, hb2, hc2⟩ := HRW w (grew_refl _)
        cases e
        exact hb2
      clear hc hb HRW
      generalize ordB long (l.take i) = o at *
      generalize l.getD i bi0 = x at *
      obtain ⟨q1, q2, q3, q4, q5⟩ := x
      dsimp only at a0 a1 a2 a3 a4
      have i0 : (0 : Int) ≤ (i : Int) := by omega
      have i1 : (i : Int) < (n : Int) := by omega
      obtain ⟨A5, c5, rfl, _, _, _, _⟩ := HT.out.form
      rw [hol] at HT ⊢
      have HLL := Lib.hid hol
      clear hol
      go_wp2_with (at_builtin; refine (wpList_append_E rfl _ _ 22 31 (vBd bi0) 40 rfl Try.underlying22 info_bd rfl w.heap.size _ o rfl (HT.out.keep (grew_alloc _ _ _)) (some ⟨wr.heap.size, 0, none⟩) 1 1 [(q1, q2, q3, q4, q5)] rfl (by intro h; cases h) (RowE.one enB5 wr (q1, q2, q3, q4, q5) 31 _ rfl) (by have := HLL.out; unfold maxLen; omega) (by have := HLL.out; omega) (Nat.le_trans (grew_size HG.out) (by simp)) ?_); intro v' w6 ho hb; have HO6 := Lib.hid ho; have HG6 : Hid (Grew w w6) := Below.trans (grew_trans HG.out (grew_alloc _ _ _)) hb; clear ho hb; refine Hid.out ?_)
      rename World => w6
      have HO7 : Hid (OwnE enB5 w6 w.heap.size 31 v' (holeL o i (q1, q2, q3, q4, q5))) := by
        have := HO6.out
        rw [hole_start, HLL.out] at this
        exact this
      clear HO6 HT HG a0 a1 a2 a3 a4
      obtain ⟨A6, c6, rfl, _, _, _, _⟩ := HO7.out.form
      obtain ⟨g, rfl, hg1, _, _, _⟩ := HO7.out.at0 (by rw [hole_len _ _ _ (by rw [HLL.out]; exact Nat.le_refl _)]; omega)
      have hl6 := hole_len o i (q1, q2, q3, q4, q5) (by rw [HLL.out]; exact Nat.le_refl _)
      rw [HLL.out] at hl6
      rw [hl6] at HO7 ⊢
      clear hl6
      refine Lib.hid ?_
      go_wp2_with (fail)
      go_loopw [7] (fun v7 wi => ∃ (k : Nat) (y : B5), v7 = .int .i64 k ∧ k ≤ i ∧ Hid (∀ p, k ≤ p → p < i → keyB long (o.getD p bi0) < keyB long (q1, q2, q3, q4, q5)) ∧ Hid (OwnE enB5 wi w.heap.size 31 (.slice (some ⟨g, 0, none⟩) (i + 1) c6) (holeL o k y)) ∧ Hid (Grew w wi)) (fun v7 _ => (intOf v7).toNat)
      case atStart => exact ⟨i, _, rfl, Nat.le_refl _, (by intro p p1 p2; omega), HO7, HG6⟩
      case round =>
        clear HO7 HG6
        rename World => wi
        obtain ⟨k, y, rfl, hk, HB, HO, HG⟩ := hrel
        by_cases hk0 : 0 < k
        · obtain ⟨k, rfl⟩ : ∃ q, k = q + 1 := ⟨k - 1, by omega⟩
          have zj : ((k + 1 : Nat) : Int) = (k : Int) + 1 := by omega
          have hjd : decide ((k : Int) + 1 > 0) = true := decide_eq_true (by omega)
          obtain ⟨hck, _, hgs⟩ := HO.out.atD k (by rw [hole_len _ _ _ (by rw [HLL.out]; omega), HLL.out]; omega)
          rw [hole_at o (k + 1) k y (by omega) (by rw [HLL.out]; omega)] at hck
          have HHD := Lib.hid (hole_down o k (by rw [HLL.out]; omega))
          have hkey := key_lt (long := long) (a := (q1, q2, q3, q4, q5)) (b := o.getD k bi0) HXF.out (HOF.out _ (getMem o k (by rw [HLL.out]; omega)))
          have CA := fun w => rahead_any long (q1, q2, q3, q4, q5) (o.getD k bi0) w
          rw [hkey] at CA
          obtain ⟨z, hz⟩ : ∃ z, z = o.getD k bi0 := ⟨_, rfl⟩
          rw [← hz] at hck CA HHD
          have HZ := Lib.hid hz
          clear hz hkey
          have HCK := Lib.hid hck
          clear hck
          obtain ⟨z1, z2, z3, z4, z5⟩ := z
          have y0 : ∀ p : GrewTo wi, p.to.cell? ⟨g, k * 5, none⟩ = some (.int .i64 z1) := fun p => (grew_cell p.h (p := ⟨g, _, none⟩) hgs).trans (HCK.out.1)
          have y1 : ∀ p : GrewTo wi, p.to.cell? ⟨g, k * 5 + 1, none⟩ = some (.int .i64 z2) := fun p => (grew_cell p.h (p := ⟨g, _, none⟩) hgs).trans (HCK.out.2.1)
          have y2 : ∀ p : GrewTo wi, p.to.cell? ⟨g, k * 5 + 2, none⟩ = some (.int .i64 z3) := fun p => (grew_cell p.h (p := ⟨g, _, none⟩) hgs).trans (HCK.out.2.2.1)
          have y3 : ∀ p : GrewTo wi, p.to.cell? ⟨g, k * 5 + 3, none⟩ = some (.int .i64 z4) := fun p => (grew_cell p.h (p := ⟨g, _, none⟩) hgs).trans (HCK.out.2.2.2.1)
          have y4 : ∀ p : GrewTo wi, p.to.cell? ⟨g, k * 5 + 4, none⟩ = some (.int .i64 z5) := fun p => (grew_cell p.h (p := ⟨g, _, none⟩) hgs).trans (HCK.out.2.2.2.2)
          have x0 : ∀ p : GrewTo wi, p.to.cell? ⟨b, ob + i * 5, none⟩ = some (.int .i64 q1) := fun p => (HCX.out _ (grew_trans HG.out p.h)).1
          have x1 : ∀ p : GrewTo wi, p.to.cell? ⟨b, ob + i * 5 + 1, none⟩ = some (.int .i64 q2) := fun p => (HCX.out _ (grew_trans HG.out p.h)).2.1
          have x2 : ∀ p : GrewTo wi, p.to.cell? ⟨b, ob + i * 5 + 2, none⟩ = some (.int .i64 q3) := fun p => (HCX.out _ (grew_trans HG.out p.h)).2.2.1
          have x3 : ∀ p : GrewTo wi, p.to.cell? ⟨b, ob + i * 5 + 3, none⟩ = some (.int .i64 q4) := fun p => (HCX.out _ (grew_trans HG.out p.h)).2.2.2.1
          have x4 : ∀ p : GrewTo wi, p.to.cell? ⟨b, ob + i * 5 + 4, none⟩ = some (.int .i64 q5) := fun p => (HCX.out _ (grew_trans HG.out p.h)).2.2.2.2
          dsimp only [vBd] at CA
          have k1 : (k : Int) < (i : Int) + 1 := by omega
          have k4 : (0 : Int) ≤ (k : Int) := by omega
          have k7 : IntKind.i64.wrap ((k : Int) + 1 - 1) = (k : Int) := by rw [IntKind.wrap_i64]; omega
          rw [zj]
          by_cases hl : keyB long (z1, z2, z3, z4, z5) < keyB long (q1, q2, q3, q4, q5)
          · have hd : decide (keyB long (z1, z2, z3, z4, z5) < keyB long (q1, q2, q3, q4, q5)) = true := decide_eq_true hl
            rw [hd] at CA
            have HB2 : Hid (∀ p, k ≤ p → p < i → keyB long (o.getD p bi0) < keyB long (q1, q2, q3, q4, q5)) := fun p p1 p2 => by
              rcases Nat.eq_or_lt_of_le p1 with e | e
              · subst e; rw [← HZ.out]; exact hl
              · exact HB.out p e p2
            clear hd hl
            go_wp2_with fail
            refine wp_region_grew (by kernel_rfl) (by kernel_rfl) ?_
            repeat (go_big_quiet_step (exact calls_grew (CA _)))
            refine wpQuiet_nil ?_
            intro w8 hw'
            have hg := grew_of hw'
            clear hw'
            have HO8 := Lib.hid (HO.out.keep hg)
            have HG8 := Lib.hid (grew_trans HG.out hg)
            obtain ⟨hcd, hfd, _⟩ := HO8.out.atD (k + 1) (by rw [hole_len _ _ _ (by rw [HLL.out]; omega), HLL.out]; omega)
            have hck8 := HCK.out.keep hgs hg
            clear HO HG hg x0 x1 x2 x3 x4 y0 y1 y2 y3 y4 CA hgs
            have HPUT : Hid (OwnE enB5 (put5 w8 g ((k + 1) * 5) (z1, z2, z3, z4, z5)) w.heap.size 31 (.slice (some ⟨g, 0, none⟩) (i + 1) c6) (holeL o k (z1, z2, z3, z4, z5))) := by
              have h1 := HO8.out.put5 (by rw [hole_len _ _ _ (by rw [HLL.out]; omega), HLL.out]) (k + 1) (z1, z2, z3, z4, z5) (by rw [hole_len _ _ _ (by rw [HLL.out]; omega), HLL.out]; omega)
              rw [hole_set _ _ _ _ (by rw [HLL.out]; omega), HHD.out] at h1
              exact h1
            have HGP : Hid (Grew w (put5 w8 g ((k + 1) * 5) (z1, z2, z3, z4, z5))) := grew_put5 hg1 _ _ HG8.out
            generalize (holeL o (k + 1) y).getD (k + 1) bi0 = u at hcd
            obtain ⟨d0, d1, d2, d3, d4⟩ := hcd
            obtain ⟨f0, f1, f2, f3, f4⟩ := hfd
            obtain ⟨b0, b1, b2, b3, b4⟩ := hck8
            simp only [put5] at HPUT HGP
            have j1 : (k : Int) + 1 < (i : Int) + 1 := by omega
            have j0 : (0 : Int) ≤ (k : Int) + 1 := by omega
            clear HO8 HG8
            go_wp2_with (fail)
            clear b0 b1 b2 b3 b4 d0 d1 d2 d3 d4 f0 f1 f2 f3 f4
            generalize (World.setCell (World.setCell (World.setCell (World.setCell (World.setCell w8 ⟨g, (k + 1) * 5, none⟩ (.int .i64 z1)) ⟨g, (k + 1) * 5 + 1, none⟩ (.int .i64 z2)) ⟨g, (k + 1) * 5 + 2, none⟩ (.int .i64 z3)) ⟨g, (k + 1) * 5 + 3, none⟩ (.int .i64 z4)) ⟨g, (k + 1) * 5 + 4, none⟩ (.int .i64 z5)) = w9 at HPUT HGP ⊢
            go_wp2_with (fail)
            go_roundw
            case rel => exact ⟨k, (z1, z2, z3, z4, z5), by go_num, by omega, HB2, HPUT.out, HGP.out⟩
            case measure => simp only [intOf]; omega
          · have hd : decide (keyB long (z1, z2, z3, z4, z5) < keyB long (q1, q2, q3, q4, q5)) = false := decide_eq_false hl
            rw [hd] at CA
            have HST : Hid (k + 1 = 0 ∨ keyB long (q1, q2, q3, q4, q5) ≤ keyB long (o.getD (k + 1 - 1) bi0)) := Or.inr (by rw [Nat.add_sub_cancel, ← HZ.out]; omega)
            clear hd hl
            go_wp2_with fail
            refine wp_region_grew (by kernel_rfl) (by kernel_rfl) ?_
            repeat (go_big_quiet_step (exact calls_grew (CA _)))
            refine wpQuiet_nil ?_
            intro w8 hw'
            have hg := grew_of hw'
            clear hw'
            have HO8 := Lib.hid (HO.out.keep hg)
            have HG8 := Lib.hid (grew_trans HG.out hg)
            clear HO HG hg x0 x1 x2 x3 x4 y0 y1 y2 y3 y4 CA hgs
            have HPUT : Hid (OwnE enB5 (put5 w8 g ((k + 1) * 5) (q1, q2, q3, q4, q5)) w.heap.size 31 (.slice (some ⟨g, 0, none⟩) (i + 1) c6) (ordB long (l.take (i + 1)))) := by
              have h1 := HO8.out.put5 (by rw [hole_len _ _ _ (by rw [HLL.out]; omega), HLL.out]) ((k + 1)) (q1, q2, q3, q4, q5) (by rw [hole_len _ _ _ (by rw [HLL.out]; omega), HLL.out]; omega)
              rw [hole_set _ _ _ _ (by rw [HLL.out]; omega)] at h1
              have h2 := insF_at (f := keyB long) (q1, q2, q3, q4, q5) bi0 HDE.out ((k + 1)) (by rw [HLL.out]; omega) (fun p p1 p2 => HB.out p p1 (by rw [HLL.out] at p2; exact p2)) HST.out
              rw [HON.out, h2]
              exact h1
            have HGP : Hid (Grew w (put5 w8 g ((k + 1) * 5) (q1, q2, q3, q4, q5))) := grew_put5 hg1 _ _ HG8.out
            have hcx := HCX.out _ HG8.out
            obtain ⟨b0, b1, b2, b3, b4⟩ := hcx
            obtain ⟨hcd, hfd, _⟩ := HO8.out.atD ((k + 1)) (by rw [hole_len _ _ _ (by rw [HLL.out]; omega), HLL.out]; omega)
            generalize (holeL o ((k + 1)) y).getD ((k + 1)) bi0 = z at hcd
            obtain ⟨d0, d1, d2, d3, d4⟩ := hcd
            obtain ⟨f0, f1, f2, f3, f4⟩ := hfd
            have j1 : ((k : Int) + 1 : Int) < (i : Int) + 1 := by omega
            have j0 : (0 : Int) ≤ ((k : Int) + 1 : Int) := by omega
            simp only [put5] at HPUT HGP
            clear HO8 HG8
            go_wp2_with (fail)
            clear b0 b1 b2 b3 b4 d0 d1 d2 d3 d4 f0 f1 f2 f3 f4
            generalize (World.setCell (World.setCell (World.setCell (World.setCell (World.setCell w8 ⟨g, (k + 1) * 5, none⟩ (.int .i64 q1)) ⟨g, (k + 1) * 5 + 1, none⟩ (.int .i64 q2)) ⟨g, (k + 1) * 5 + 2, none⟩ (.int .i64 q3)) ⟨g, (k + 1) * 5 + 3, none⟩ (.int .i64 q4)) ⟨g, (k + 1) * 5 + 4, none⟩ (.int .i64 q5)) = w9 at HPUT HGP ⊢
            go_wp2_with (fail)
            go_roundw
            case rel => exact ⟨i + 1, by go_num, by omega, HPUT.out, HGP.out⟩
            case measure => simp only [intOf]; omega
        · have hjd : decide ((k : Int) > 0) = false := decide_eq_false (by omega)
          have hjd2 : decide (0 < k) = false := decide_eq_false (by omega)
          have hkz : k = 0 := by omega
          have HST : Hid (k = 0 ∨ keyB long (q1, q2, q3, q4, q5) ≤ keyB long (o.getD (k - 1) bi0)) := Or.inl hkz
          clear hkz hk0
          go_wp2_with fail
          refine wp_region_grew (by kernel_rfl) (by kernel_rfl) ?_
          repeat (go_big_quiet_step (fail))
          refine wpQuiet_nil ?_
          intro w8 hw'
          have hg := grew_of hw'
          clear hw'
          have HO8 := Lib.hid (HO.out.keep hg)
          have HG8 := Lib.hid (grew_trans HG.out hg)
          clear HO HG hg
          have HPUT : Hid (OwnE enB5 (put5 w8 g (k * 5) (q1, q2, q3, q4, q5)) w.heap.size 31 (.slice (some ⟨g, 0, none⟩) (i + 1) c6) (ordB long (l.take (i + 1)))) := by
            have h1 := HO8.out.put5 (by rw [hole_len _ _ _ (by rw [HLL.out]; omega), HLL.out]) (k) (q1, q2, q3, q4, q5) (by rw [hole_len _ _ _ (by rw [HLL.out]; omega), HLL.out]; omega)
            rw [hole_set _ _ _ _ (by rw [HLL.out]; omega)] at h1
            have h2 := insF_at (f := keyB long) (q1, q2, q3, q4, q5) bi0 HDE.out (k) (by rw [HLL.out]; omega) (fun p p1 p2 => HB.out p p1 (by rw [HLL.out] at p2; exact p2)) HST.out
            rw [HON.out, h2]
            exact h1
          have HGP : Hid (Grew w (put5 w8 g (k * 5) (q1, q2, q3, q4, q5))) := grew_put5 hg1 _ _ HG8.out
          have hcx := HCX.out _ HG8.out
          obtain ⟨b0, b1, b2, b3, b4⟩ := hcx
          obtain ⟨hcd, hfd, _⟩ := HO8.out.atD (k) (by rw [hole_len _ _ _ (by rw [HLL.out]; omega), HLL.out]; omega)
          generalize (holeL o (k) y).getD (k) bi0 = z at hcd
          obtain ⟨d0, d1, d2, d3, d4⟩ := hcd
          obtain ⟨f0, f1, f2, f3, f4⟩ := hfd
          have j1 : (k : Int) < (i : Int) + 1 := by omega
          have j0 : (0 : Int) ≤ (k : Int) := by omega
          simp only [put5] at HPUT HGP
          clear HO8 HG8
          go_wp2_with (fail)
          clear b0 b1 b2 b3 b4 d0 d1 d2 d3 d4 f0 f1 f2 f3 f4
          generalize (World.setCell (World.setCell (World.setCell (World.setCell (World.setCell w8 ⟨g, k * 5, none⟩ (.int .i64 q1)) ⟨g, k * 5 + 1, none⟩ (.int .i64 q2)) ⟨g, k * 5 + 2, none⟩ (.int .i64 q3)) ⟨g, k * 5 + 3, none⟩ (.int .i64 q4)) ⟨g, k * 5 + 4, none⟩ (.int .i64 q5)) = w9 at HPUT HGP ⊢
          go_wp2_with (fail)
          go_roundw
          case rel => exact ⟨i + 1, by go_num, by omega, HPUT.out, HGP.out⟩
          case measure => simp only [intOf]; omega
    · obtain rfl : i = n := by omega
      have HF2 : Hid (l.take i = l) := List.take_of_length_le (by rw [HL.out]; exact Nat.le_refl _)
      rw [HF2.out] at HT
      go_wp2_with (fail)
      go_ret
      exact ⟨_, rfl, HT.out, HG.out⟩
end Go.Proofs.Ytahioajpmlochaa.NumK
namespace Go.Proofs.Ytahioajpmlochaa.NumK
open Go.RowKit
set_option linter.unusedVariables false

theorem growBd0_any (w : World) : Calls Try.prog 35 #[.slice none 0 0, .int .i64 ((0 : Nat) : Int)] w fun e w' => ∃ v, e = .returned v ∧ OwnE enB5 w' w.heap.size 31 v [] ∧ Grew w w' := by
  go_enter Try.func35, Try.ntmps35
  go_wp2
  go_ret
  exact ⟨_, rfl, OwnE.nil _ _ _ _, grew_refl _⟩
theorem growBd1_any (n : Nat) (w : World) (h0 : 0 < n) (hn : n ≤ 1000000) :
    Calls Try.prog 35 #[.slice none 0 0, .int .i64 n] w fun e w' => ∃ v, e = .returned v ∧ OwnE enB5 w' w.heap.size 31 v [] ∧ Grew w w' := by
  obtain ⟨i0, hi0, hz0, hs0, hb0⟩ := info_parts info_bd
  have h2 : wrap64 ((0 : Int) - (0 : Int)) = 0 := by unfold wrap64; omega
  have h3 : wrap64 ((n : Int) - 0) = (n : Int) := by unfold wrap64; omega
  have h4 : (n : Int) > 0 := by omega
  have h1 : ¬ ((n : Int) < 0) := by omega
  have hrz : ∀ ty, (Builtin.append_ #[22, 3] ty #[.slice none 0 0, .int .i64 (n : Int)]).run Try.prog w =
      .ok (.slice (some ⟨w.heap.size, 0, none⟩) (0 + n) (grownCap w (0 + n) 0 31)) (w.drew.alloc (.cells (([] : List Value).toArray ++ Builtin.zeroCells (vBd bi0).cells n ++ Builtin.zeroCells (vBd bi0).cells (grownCap w (0 + n) 0 31 - (0 + n))) 31)) := fun ty =>
    Lib.run_append_grow_zeros w 22 3 ty 31 i0 (vBd bi0) .i64 .i64 Try.underlying22 Try.underlying3 hi0 hz0 none 0 0 [] (run_firstCells_none w.drew i0.size 0 0 0) n h0 (by rw [hs0]; decide) (by omega) (by omega) (by rw [hb0]; omega)
      (growslice_fits (by omega) (by rw [hb0]; omega))
  have hGn : n ≤ grownCap w (0 + n) 0 31 := by have := grownCap_ge w (0 + n) 0 31; omega
  have hGm : grownCap w (0 + n) 0 31 ≤ maxLen := grownCap_le_maxLen w (0 + n) 0 31 (by unfold maxLen; omega)
  have hzl : (Builtin.zeroCells (vBd bi0).cells n).size = n * 5 := by simp [Builtin.zeroCells, Value.cells]
  rw [Nat.zero_add] at *
  generalize hG : grownCap w n 0 31 = G at *
  clear hG
  have hzm : (Builtin.zeroCells (vBd bi0).cells (G - n)).size = (G - n) * 5 := by simp [Builtin.zeroCells, Value.cells]
  have HP : Hid (OwnE enB5 (w.drew.alloc (.cells (([] : List Value).toArray ++ Builtin.zeroCells (vBd bi0).cells n ++ Builtin.zeroCells (vBd bi0).cells (G - n)) 31)) w.heap.size 31 (.slice (some ⟨w.heap.size, 0, none⟩) 0 G) []) :=
    ⟨by simp, .inr ⟨w.heap.size, G, _, rfl, Nat.le_refl _, heap_alloc_new w.drew _, by simp, hGm, by simp only [List.size_toArray, Array.size_append, List.length_nil, hzl, hzm]; show _ = G * 5; omega, by simp⟩⟩
  have HB : Hid (Grew w (w.drew.alloc (.cells (([] : List Value).toArray ++ Builtin.zeroCells (vBd bi0).cells n ++ Builtin.zeroCells (vBd bi0).cells (G - n)) 31))) := grew_trans (grew_drew (grew_refl w)) (grew_alloc _ _ _)
  clear hzl hzm hi0 hz0 hs0 hb0
  generalize w.drew.alloc (.cells (([] : List Value).toArray ++ Builtin.zeroCells (vBd bi0).cells n ++ Builtin.zeroCells (vBd bi0).cells (G - n)) 31) = w9 at *
  unfold maxLen at hGm
  go_enter Try.func35, Try.ntmps35
  go_wp2_with (at_builtin; refine Lib.wpList_append_run _ rfl _ _ _ _ rfl _ _ rfl rfl _ _ (hrz _) ?_)
  go_ret
  exact ⟨_, rfl, HP.out, HB.out⟩
theorem growBd_any (n : Nat) (w : World) (hn : n ≤ 1000000) :
    Calls Try.prog 35 #[.slice none 0 0, .int .i64 n] w fun e w' => ∃ v, e = .returned v ∧ OwnE enB5 w' w.heap.size 31 v [] ∧ Grew w w' := by
  rcases Nat.eq_zero_or_pos n with h | h
  · subst h; exact growBd0_any w
  · exact growBd1_any n w h hn

set_option maxRecDepth 100000 in
set_option maxHeartbeats 2000000 in
theorem concatBd_any (B : Nat) (A1 : Option Addr) (n1 c1 : Nat) (l1 : List B5) (w : World) (hB : OwnC w B [.slice A1 n1 c1]) (h1 : RowE enB5 w A1 n1 l1) (k1 : A1 = none → c1 = 0) (hn : n1 ≤ 100000) :
    Calls Try.prog 21 #[.slice (some ⟨B, 0, none⟩) 1 1] w fun e w' => ∃ v, e = .returned v ∧ OwnE enB5 w' w.heap.size 31 v l1 ∧ Grew w w' := by
  have HB := Lib.hid hB
  have H1 := Lib.hid h1
  have K1 := Lib.hid k1
  have L1 := Lib.hid h1.len
  clear hB h1 k1
  go_enter Try.func21, Try.ntmps21
  go_wp2
  go_loop [3, 5, 11] (fun v3 v5 v11 => ∃ j s : Nat, v11 = .int .i64 j ∧ v3 = .int .i64 s ∧ j ≤ 1 ∧ Hid ((j = 0 ∧ s = 0) ∨ (j = 1 ∧ s = n1))) (fun _ _ v11 => 1 - (intOf v11).toNat)
  case atStart => exact ⟨0, 0, rfl, rfl, by omega, Or.inl ⟨rfl, rfl⟩⟩
  case round =>
    obtain ⟨j, s, rfl, rfl, hj, HS⟩ := hrel
    rcases HS.out with ⟨rfl, rfl⟩ | ⟨rfl, rfl⟩
    · have b0 : w.cell? ⟨B, 0, none⟩ = some (.slice A1 n1 c1) := HB.out.at 0 _ rfl
      have e1 : IntKind.i64.wrap (n1 : Int) = n1 := by rw [IntKind.wrap_i64]; omega
      have e2 : ¬ ((n1 : Int) < 0) := by omega
      clear HS hj
      go_wp2
      go_round
      case rel => exact ⟨1, n1, by go_num, by go_num, by omega, Or.inr ⟨rfl, rfl⟩⟩
      case measure => simp only [intOf]; omega
    · have CG := fun w => growBd_any s w (by omega)
      clear HS hj
      go_wp2_with (go_at_call 35; ((with_reducible refine (CG _).mono ?_); rintro e w5 ⟨v, rfl, ho, hg⟩; have HO := Lib.hid ho; have HG5 := Lib.hid hg; clear ho hg CG))
      go_loopw [6, 8, 27] (fun v6 v8 v27 wr => ∃ j : Nat, v27 = .int .i64 j ∧ j ≤ 1 ∧ Hid ((j = 0 ∧ OwnE enB5 wr w.heap.size 31 v6 []) ∨ (j = 1 ∧ OwnE enB5 wr w.heap.size 31 v6 l1)) ∧ Hid (Grew w wr)) (fun _ _ v27 _ => 1 - (intOf v27).toNat)
      case atStart => exact ⟨0, rfl, by omega, Or.inl ⟨rfl, HO.out⟩, HG5.out⟩
      case round =>
        obtain ⟨j, rfl, hj, HS, HG⟩ := hrel
        rcases HS.out with ⟨rfl, ho⟩ | ⟨rfl, ho⟩
        · have b0 : wr.cell? ⟨B, 0, none⟩ = some (.slice A1 s c1) := (HB.out.keep HG.out).at 0 _ rfl
          have HV := Lib.hid ho
          have HZ : Hid (w.heap.size ≤ wr.heap.size) := HG.out.size
          clear HS hj HO ho
          go_wp2_with (at_builtin; refine (wpList_append_E rfl _ _ 22 31 (vBd bi0) 40 rfl Try.underlying22 info_bd rfl w.heap.size _ [] rfl HV.out A1 s c1 l1 rfl K1.out (H1.out.keep HG.out) (by simp; unfold maxLen; omega) (by simp; omega) HZ.out ?_); intro v' w' ho hb; rw [List.nil_append] at ho; have HP := Lib.hid ho; have HB2 : Hid (Grew w w') := Below.trans HG.out hb; clear ho hb)
          go_roundw
          case rel => exact ⟨1, by go_num, by omega, Or.inr ⟨rfl, HP.out⟩, HB2.out⟩
          case measure => simp only [intOf]; omega
        · have HP := Lib.hid ho
          clear HS hj HO ho
          go_wp2
          go_ret
          exact ⟨_, rfl, HP.out, HG.out⟩
end Go.Proofs.Ytahioajpmlochaa.NumK
namespace Go.Proofs.Ytahioajpmlochaa.NumK

/-- What stands from l up to i is ahead of what stands at a; what stands from j on is not. -/
def Bef (f : Nat → Int) (d : Nat → Nat) (a l i : Nat) : Prop := ∀ k, l ≤ k → k < i → f (d a) < f (d k)
def Nbf (f : Nat → Int) (d : Nat → Nat) (a j b : Nat) : Prop := ∀ k, j ≤ k → k < b → ¬ f (d a) < f (d k)

/-- What stands from l up to i is not behind what stands at m; what stands from j on is. -/
def Bef2 (f : Nat → Int) (d : Nat → Nat) (m l i : Nat) : Prop := ∀ k, l ≤ k → k < i → ¬ f (d k) < f (d m)
def Nbf2 (f : Nat → Int) (d : Nat → Nat) (m j b : Nat) : Prop := ∀ k, j ≤ k → k < b → f (d k) < f (d m)

def Side (a m b mid lo hi : Nat) : Prop := (mid < m ∧ lo + b = mid + m ∧ hi = mid) ∨ (m ≤ mid ∧ lo = a ∧ hi = m)
/-- What the search has found of the cut: left of i it is too low, at j it is high enough. -/
def Low (f : Nat → Int) (d : Nat → Nat) (q lo i : Nat) : Prop := lo < i → ¬ f (d (i - 1)) < f (d (q - 1 - (i - 1)))
def High (f : Nat → Int) (d : Nat → Nat) (q hi j : Nat) : Prop := j < hi → f (d j) < f (d (q - 1 - j))

theorem rot_nil (d : Nat → Nat) (s m e : Nat) (h : m ≤ s ∨ e ≤ m) (hs : s ≤ m) (he : m ≤ e) : rot d s m e = d := by
  funext k
  unfold rot
  rcases h with h | h
  · by_cases c : s ≤ k ∧ k < s + (e - m)
    · rw [if_pos c]; congr 1; omega
    · rw [if_neg c, if_neg (by omega)]
  · rw [if_neg (by omega)]
    by_cases c : s + (e - m) ≤ k ∧ k < e
    · rw [if_pos c]; congr 1; omega
    · rw [if_neg c]

theorem cut_side {f : Nat → Int} {a m b mid lo hi s : Nat} {d : Nat → Nat} (h1 : Sd f a m d) (h2 : Sd f m b d) (hx : Xs a m b d) (ham : a < m) (hmb : m < b) (hmid : mid = (a + b) / 2) (S : Side a m b mid lo hi)
    (hs1 : lo ≤ s) (hs2 : s ≤ hi) (hb : Low f d (mid + m) lo s) (ha : High f d (mid + m) hi s) : Cut f a m b mid s d := by
  refine cut_of (lo0 := lo) (hi0 := hi) h1 h2 hx ham hmb hmid ?_ ?_ hs1 hs2 hb ha
  · unfold Side at S; split <;> omega
  · unfold Side at S; split <;> omega

theorem dvd_gap {s a c : Nat} (ha : s ∣ a) (hc : s ∣ c) (h : a < c) : a + s ≤ c := by
  have := Nat.le_of_dvd (by omega) (Nat.dvd_sub hc ha)
  omega

/-- Each block of so many places is sorted, and holds what it held. -/
def Blk (f : Nat → Int) (sz n : Nat) (e : Nat → Nat) : Prop := ∀ c, sz ∣ c → Sd f c (min (c + sz) n) e ∧ Br c e
/-- .. up to a of twice as many, from a on of as many. -/
def Half (f : Nat → Int) (sz n a : Nat) (e : Nat → Nat) : Prop :=
  2 * sz ∣ a ∧ (∀ c, 2 * sz ∣ c → c + 2 * sz ≤ a → Sd f c (c + 2 * sz) e) ∧ (∀ c, sz ∣ c → a ≤ c → Sd f c (min (c + sz) n) e) ∧ (∀ c, 2 * sz ∣ c → Br c e) ∧ (∀ c, sz ∣ c → a ≤ c → Br c e)
/-- .. up to a sorted, from a on as they came. -/
def Begun (f : Nat → Int) (sz a : Nat) (e : Nat → Nat) : Prop :=
  sz ∣ a ∧ (∀ c, sz ∣ c → c + sz ≤ a → Sd f c (c + sz) e) ∧ (∀ c, sz ∣ c → Br c e) ∧ ∀ k, a ≤ k → e k = k

theorem br_id (c : Nat) : Br c (fun k => k) := fun _ => Iff.rfl

theorem begun_next {f : Nat → Int} {sz a : Nat} {e e' : Nat → Nat} (h : Begun f sz a e) (hz : 0 < sz) (hm : Moves a (a + sz) e e') (hs : Sd f a (a + sz) e') : Begun f sz (a + sz) e' := by
  obtain ⟨h1, h2, h3, h4⟩ := h
  refine ⟨(Nat.dvd_add_right h1).2 (Nat.dvd_refl _), fun c hc hl => ?_, fun c hc => ?_, fun k hk => ?_⟩
  · by_cases e1 : c = a
    · subst e1; exact hs
    · have : c + sz ≤ a := by
        rcases Nat.lt_or_ge c a with g | g
        · exact dvd_gap hc h1 g
        · omega
      exact (h2 c hc this).moves_out hm (Or.inl this)
  · refine (h3 c hc).moves hm ?_
    rcases Nat.lt_or_ge a c with g | g
    · exact Or.inr (dvd_gap h1 hc g)
    · exact Or.inl g
  · rw [hm.out k (by omega)]; exact h4 k (by omega)

theorem begun_end {f : Nat → Int} {sz n a : Nat} {e e' : Nat → Nat} (h : Begun f sz a e) (ha : n ≤ a + sz) (han : a ≤ n) (hm : Moves a n e e') (hs : Sd f a n e') : Blk f sz n e' := by
  obtain ⟨h1, h2, h3, h4⟩ := h
  intro c hc
  rcases Nat.lt_trichotomy c a with g | g | g
  · have := dvd_gap hc h1 g
    refine ⟨?_, (h3 c hc).moves hm (Or.inl (by omega))⟩
    rw [show min (c + sz) n = c + sz from by omega]
    exact (h2 c hc this).moves_out hm (Or.inl this)
  · subst g
    refine ⟨?_, (h3 c hc).moves hm (Or.inl (by omega))⟩
    rw [show min (c + sz) n = n from by omega]; exact hs
  · have := dvd_gap h1 hc g
    exact ⟨Sd.one _ _ _ _ (by omega), (h3 c hc).moves hm (Or.inr (by omega))⟩

theorem half_start {f : Nat → Int} {sz n : Nat} {e : Nat → Nat} (h : Blk f sz n e) (hz : 0 < sz) : Half f sz n 0 e :=
  ⟨Nat.dvd_zero _, fun c _ hl => by omega, fun c hc _ => (h c hc).1, fun c hc => (h c (Nat.dvd_trans (Nat.dvd_mul_left _ _) hc)).2, fun c hc _ => (h c hc).2⟩

theorem half_parts {f : Nat → Int} {sz n a : Nat} {e : Nat → Nat} (h : Half f sz n a e) : sz ∣ a ∧ sz ∣ a + sz ∧ Br (a + sz) e := by
  obtain ⟨h1, h2, h3, h4, h5⟩ := h
  have k1 : sz ∣ a := Nat.dvd_trans (Nat.dvd_mul_left _ _) h1
  have k2 : sz ∣ a + sz := (Nat.dvd_add_right k1).2 (Nat.dvd_refl _)
  exact ⟨k1, k2, h5 _ k2 (by omega)⟩
theorem half_two {f : Nat → Int} {sz n a : Nat} {e : Nat → Nat} (h : Half f sz n a e) (hz : 0 < sz) (hb : a + 2 * sz ≤ n) : Sd f a (a + sz) e ∧ Sd f (a + sz) (a + 2 * sz) e ∧ Xs a (a + sz) (a + 2 * sz) e := by
  obtain ⟨k1, k2, k3⟩ := half_parts h
  obtain ⟨h1, h2, h3, h4, h5⟩ := h
  have a1 := h3 a k1 (Nat.le_refl _)
  have a2 := h3 (a + sz) k2 (by omega)
  rw [show min (a + sz) n = a + sz from by omega] at a1
  rw [show min (a + sz + sz) n = a + 2 * sz from by omega] at a2
  exact ⟨a1, a2, k3.xs⟩
theorem half_last {f : Nat → Int} {sz n a : Nat} {e : Nat → Nat} (h : Half f sz n a e) (hb : n ≤ a + 2 * sz) (hm : a + sz ≤ n) : Sd f a (a + sz) e ∧ Sd f (a + sz) n e ∧ Xs a (a + sz) n e := by
  obtain ⟨k1, k2, k3⟩ := half_parts h
  obtain ⟨h1, h2, h3, h4, h5⟩ := h
  have a1 := h3 a k1 (Nat.le_refl _)
  have a2 := h3 (a + sz) k2 (by omega)
  rw [show min (a + sz) n = a + sz from by omega] at a1
  rw [show min (a + sz + sz) n = n from by omega] at a2
  exact ⟨a1, a2, k3.xs⟩

theorem half_next {f : Nat → Int} {sz n a : Nat} {e e' : Nat → Nat} (h : Half f sz n a e) (hz : 0 < sz) (hm : Moves a (a + 2 * sz) e e') (hs : Sd f a (a + 2 * sz) e') : Half f sz n (a + 2 * sz) e' := by
  obtain ⟨h1, h2, h3, h4, h5⟩ := h
  refine ⟨(Nat.dvd_add_right h1).2 (Nat.dvd_refl _), fun c hc hl => ?_, fun c hc hl => (h3 c hc (by omega)).moves_out hm (Or.inr (by omega)), fun c hc => ?_, fun c hc hl => (h5 c hc (by omega)).moves hm (Or.inr hl)⟩
  · by_cases e1 : c = a
    · subst e1; exact hs
    · have : c + 2 * sz ≤ a := by
        rcases Nat.lt_or_ge c a with g | g
        · exact dvd_gap hc h1 g
        · omega
      exact (h2 c hc this).moves_out hm (Or.inl this)
  · refine (h4 c hc).moves hm ?_
    rcases Nat.lt_or_ge a c with g | g
    · exact Or.inr (dvd_gap h1 hc g)
    · exact Or.inl g

theorem half_end {f : Nat → Int} {sz n a : Nat} {e e' : Nat → Nat} (h : Half f sz n a e) (han : a ≤ n) (hb : n ≤ a + 2 * sz) (hm : Moves a n e e') (hs : Sd f a n e') : Blk f (2 * sz) n e' := by
  obtain ⟨h1, h2, h3, h4, h5⟩ := h
  intro c hc
  rcases Nat.lt_trichotomy c a with g | g | g
  · have := dvd_gap hc h1 g
    refine ⟨?_, (h4 c hc).moves hm (Or.inl (by omega))⟩
    rw [show min (c + 2 * sz) n = c + 2 * sz from by omega]
    exact (h2 c hc this).moves_out hm (Or.inl this)
  · subst g
    refine ⟨?_, (h4 c hc).moves hm (Or.inl (by omega))⟩
    rw [show min (c + 2 * sz) n = n from by omega]; exact hs
  · have := dvd_gap h1 hc g
    exact ⟨Sd.one _ _ _ _ (by omega), (h4 c hc).moves hm (Or.inr (by omega))⟩

theorem half_stay {f : Nat → Int} {sz n a : Nat} {e : Nat → Nat} (h : Half f sz n a e) (han : a ≤ n) (hb : n ≤ a + sz) : Blk f (2 * sz) n e := by
  refine half_end h han (by omega) (Moves.refl _ _ _) ?_
  obtain ⟨k1, k2, k3⟩ := half_parts h
  have := h.2.2.1 a k1 (Nat.le_refl _)
  rwa [show min (a + sz) n = n from by omega] at this

end Go.Proofs.Ytahioajpmlochaa.NumK
namespace Go.Proofs.Ytahioajpmlochaa.NumK
open Go.RowKit

set_option maxRecDepth 100000 in
set_option maxHeartbeats 4000000 in
theorem symAB_any {L : Nat → B5} (g : Nat) (cb : Array Value) (cf : B5 → B5 → Int) (f : Nat → Int) (blk n cap a b : Nat) (d : Nat → Nat) (w0 w : World) (eg : ∀ args w, (callFunc g args).run Try.prog w = .ok (.enter g args) w)
    (hC : CmpB L g cb cf f blk n w0) (hT : Turn blk w0 w) (hR : RowBd L w blk n d) (hd : ∀ k, k < n → d k < n) (hs2 : Sd f (a + 1) b d) (hx : Xs a (a + 1) b d) (hmb : a + 1 < b) (hb : b ≤ n) (hn : n ≤ 1000000) :
    Calls Try.prog 45 #[.slice (some ⟨blk, 0, none⟩) n cap, .int .i64 a, .int .i64 ((a : Int) + 1), .int .i64 b, .func (.func g) #[] cb] w (SortPostB L f blk n a b d w0) := by
  have HR := Lib.hid hR
  have HC := Lib.hid hC
  have HT := Lib.hid hT
  have HD := Lib.hid hd
  have HS := Lib.hid hs2
  have HX := Lib.hid hx
  clear hR hC hT hd hs2 hx
  have e1 : (((a : Int) + 1 - (a : Int)) == 1) = true := by simp; omega
  go_enter Try.func45, Try.ntmps45
  go_wp2
  clear e1
  go_loopw [10, 11] (fun vi vj wr => ∃ (i j : Nat), vi = .int .i64 i ∧ vj = .int .i64 j ∧ a + 1 ≤ i ∧ i ≤ j ∧ j ≤ b ∧ Bef f d a (a + 1) i ∧ Nbf f d a j b ∧ Hid (RowBd L wr blk n d) ∧ Hid (Turn blk w0 wr)) (fun vi vj _ => (intOf vj).toNat - (intOf vi).toNat)
  case atStart => exact ⟨a + 1, b, by go_num, rfl, by omega, by omega, by omega, fun k h1 h2 => by omega, fun k h1 h2 => by omega, HR, HT⟩
  case round =>
    clear HR HT
    obtain ⟨i, j, rfl, rfl, hi, hij, hj, HL, HG, HR, HT⟩ := hrel
    by_cases hlt : i < j
    · obtain ⟨h, hh⟩ : ∃ h, h = (i + j) / 2 := ⟨_, rfl⟩
      have h1 : i ≤ h := by omega
      have h2 : h < j := by omega
      have h3 : h < n := by omega
      have h4 : (h : Int) < (n : Int) := by omega
      have h5 : a < n := by omega
      have h6 : (a : Int) < (n : Int) := by omega
      have h7 : (0 : Int) ≤ (h : Int) := by omega
      have h8 : (0 : Int) ≤ (a : Int) := by omega
      have hq : ((i : Int) + (j : Int)) / 2 = (h : Int) := by omega
      have c1 := rowB_all HR.out (k := h) (by omega)
      have c2 := rowB_all HR.out (k := a) (by omega)
      have hc := HC.out.all HT.out (d h) (d a) (HD.out _ (by omega)) (HD.out _ (by omega))
      have hv := Lib.hid (HC.out.lt (d h) (d a) (HD.out _ (by omega)) (HD.out _ (by omega)))
      obtain ⟨x, hx⟩ : ∃ x, x = d h := ⟨_, rfl⟩
      obtain ⟨y, hy⟩ : ∃ y, y = d a := ⟨_, rfl⟩
      rw [← hx] at c1
      rw [← hy] at c2
      rw [← hx, ← hy] at hc hv
      have HX1 := Lib.hid hx
      have HY1 := Lib.hid hy
      have HH := Lib.hid hh
      clear hx hy hh
      generalize cf (L x) (L y) = c at hc hv
      generalize L x = X at c1 c2 hc
      generalize L y = Y at c1 c2 hc
      obtain ⟨X1, X2, X3, X4, X5⟩ := X
      obtain ⟨Y1, Y2, Y3, Y4, Y5⟩ := Y
      dsimp only [vBd] at hc
      have c11 : ∀ p : GrewTo wr, p.to.cell? ⟨blk, h * 5, none⟩ = some (.int .i64 X1) := fun p => (c1 p).1
      have c12 : ∀ p : GrewTo wr, p.to.cell? ⟨blk, h * 5 + 1, none⟩ = some (.int .i64 X2) := fun p => (c1 p).2.1
      have c13 : ∀ p : GrewTo wr, p.to.cell? ⟨blk, h * 5 + 2, none⟩ = some (.int .i64 X3) := fun p => (c1 p).2.2.1
      have c14 : ∀ p : GrewTo wr, p.to.cell? ⟨blk, h * 5 + 3, none⟩ = some (.int .i64 X4) := fun p => (c1 p).2.2.2.1
      have c15 : ∀ p : GrewTo wr, p.to.cell? ⟨blk, h * 5 + 4, none⟩ = some (.int .i64 X5) := fun p => (c1 p).2.2.2.2
      have c21 : ∀ p : GrewTo wr, p.to.cell? ⟨blk, a * 5, none⟩ = some (.int .i64 Y1) := fun p => (c2 p).1
      have c22 : ∀ p : GrewTo wr, p.to.cell? ⟨blk, a * 5 + 1, none⟩ = some (.int .i64 Y2) := fun p => (c2 p).2.1
      have c23 : ∀ p : GrewTo wr, p.to.cell? ⟨blk, a * 5 + 2, none⟩ = some (.int .i64 Y3) := fun p => (c2 p).2.2.1
      have c24 : ∀ p : GrewTo wr, p.to.cell? ⟨blk, a * 5 + 3, none⟩ = some (.int .i64 Y4) := fun p => (c2 p).2.2.2.1
      have c25 : ∀ p : GrewTo wr, p.to.cell? ⟨blk, a * 5 + 4, none⟩ = some (.int .i64 Y5) := fun p => (c2 p).2.2.2.2
      clear c1 c2
      by_cases hl : c < 0
      · have hcd : decide (c < 0) = true := decide_eq_true hl
        go_wp2_with fail
        refine wp_region_grew (by kernel_rfl) (by kernel_rfl) ?_
        repeat (go_big_quiet_step (exact calls_grew (hc _)))
        refine wpQuiet_nil ?_
        intro w2 hw'
        have hg := grew_of hw'
        clear hw'
        have HR2 : Hid (RowBd L w2 blk n d) := HR.out.keep hg
        have HT2 : Hid (Turn blk w0 w2) := HT.out.grew hg
        clear c11 c12 c13 c14 c15 c21 c22 c23 c24 c25 hc HR HT hg hcd hq
        have HL2 : Bef f d a (a + 1) (h + 1) := by
          intro k k1 k2
          have hf : f (d a) < f (d h) := by rw [← HX1.out, ← HY1.out]; exact hv.out.1 hl
          by_cases c : k = h
          · rw [c]; exact hf
          · have := HS.out k h k1 (by omega) (by omega)
            unfold Ah at this; omega
        clear hv hl
        go_wp2
        go_roundw
        case rel => exact ⟨h + 1, j, by go_num, rfl, by omega, by omega, by omega, HL2, HG, HR2, HT2⟩
        case measure => simp only [intOf]; omega
      · have hcd : decide (c < 0) = false := decide_eq_false hl
        go_wp2_with fail
        refine wp_region_grew (by kernel_rfl) (by kernel_rfl) ?_
        repeat (go_big_quiet_step (exact calls_grew (hc _)))
        refine wpQuiet_nil ?_
        intro w2 hw'
        have hg := grew_of hw'
        clear hw'
        have HR2 : Hid (RowBd L w2 blk n d) := HR.out.keep hg
        have HT2 : Hid (Turn blk w0 w2) := HT.out.grew hg
        clear c11 c12 c13 c14 c15 c21 c22 c23 c24 c25 hc HR HT hg hcd hq
        have HG2 : Nbf f d a h b := by
          intro k k1 k2
          have hf : ¬ f (d a) < f (d h) := by rw [← HX1.out, ← HY1.out]; intro h9; have := hv.out.2 h9; omega
          by_cases c : k = h
          · rw [c]; exact hf
          · have := HS.out h k (by omega) (by omega) k2
            unfold Ah at this; omega
        clear hv hl
        go_wp2
        go_roundw
        case rel => exact ⟨i, h, rfl, rfl, by omega, by omega, by omega, HL, HG2, HR2, HT2⟩
        case measure => simp only [intOf]; omega
    · obtain rfl : i = j := by omega
      have HF : Hid (Sd f a b (shU d a (i - 1))) := shU_sorted HS.out HX.out (by omega) (by omega) HL HG
      have HM : Hid (Moves a b d (shU d a (i - 1))) := shU_moves d a (i - 1) b (by omega) (by omega)
      have HR2 : Hid (RowBd L wr blk n (shU d a a)) := by rw [shU_zero]; exact HR
      clear HL HG HR
      go_wp2
      go_loopw [13] (fun vk wr => ∃ (k : Nat), vk = .int .i64 k ∧ a ≤ k ∧ k ≤ i - 1 ∧ Hid (RowBd L wr blk n (shU d a k)) ∧ Hid (Turn blk w0 wr)) (fun vk _ => i - (intOf vk).toNat)
      case atStart => exact ⟨a, rfl, by omega, by omega, HR2, HT⟩
      case round =>
        clear HR2 HT
        obtain ⟨k, rfl, hk1, hk2, HR, HT⟩ := hrel
        by_cases hlt : k < i - 1
        · have HN := Lib.hid (shU_succ d a k hk1)
          generalize shU d a k = e at *
          have k1 : (k : Int) < (i : Int) - 1 := by omega
          have k2 : (k : Int) + 1 < (n : Int) := by omega
          have k3 : (k : Int) < (n : Int) := by omega
          have k4 : (0 : Int) ≤ (k : Int) := by omega
          have k5 : (0 : Int) ≤ (k : Int) + 1 := by omega
          have k6 : IntKind.i64.wrap ((k : Int) + 1) = (k : Int) + 1 := by rw [IntKind.wrap_i64]; omega
          have c1 := rowB_cells HR.out (k := k) (by omega)
          have c2 := rowB_cells HR.out (k := k + 1) (by omega)
          have f1 := rowB_froz HR.out (k := k) (by omega)
          have f2 := rowB_froz HR.out (k := k + 1) (by omega)
          have c3 := rowB_two HR.out (k) (k + 1) (by omega) (by omega) (L (e (k + 1)))
          have HSW : Hid (RowBd L (put5 (put5 wr blk ((k) * 5) (L (e (k + 1)))) blk ((k + 1) * 5) (L (e (k)))).drew blk n (sw e (k) (k + 1))) := rowB_swap HR.out (k) (k + 1) (by omega) (by omega) (by omega)
          have HTW : Hid (Turn blk w0 (put5 (put5 wr blk ((k) * 5) (L (e (k + 1)))) blk ((k + 1) * 5) (L (e (k)))).drew) := turn_put25 HT.out _ _ _ _
          clear HR HT
          generalize L (e (k)) = x at c1 HSW HTW
          generalize L (e (k + 1)) = y at c2 c3 HSW HTW
          obtain ⟨x1, x2, x3, x4, x5⟩ := x
          obtain ⟨y1, y2, y3, y4, y5⟩ := y
          simp only [put5] at c3 HSW HTW
          obtain ⟨c11, c12, c13, c14, c15⟩ := c1
          obtain ⟨c21, c22, c23, c24, c25⟩ := c2
          obtain ⟨c31, c32, c33, c34, c35⟩ := c3
          obtain ⟨f11, f12, f13, f14, f15⟩ := f1
          obtain ⟨f21, f22, f23, f24, f25⟩ := f2
          dsimp only at c11 c12 c13 c14 c15 c21 c22 c23 c24 c25 c31 c32 c33 c34 c35
          go_wp2_with fail
          go_big_region
          clear c11 c12 c13 c14 c15 c21 c22 c23 c24 c25 c31 c32 c33 c34 c35 f11 f12 f13 f14 f15 f21 f22 f23 f24 f25
          generalize (World.drew (World.setCell (World.setCell (World.setCell (World.setCell (World.setCell (World.setCell (World.setCell (World.setCell (World.setCell (World.setCell wr ⟨blk, k * 5, none⟩ (.int .i64 y1)) ⟨blk, k * 5 + 1, none⟩ (.int .i64 y2)) ⟨blk, k * 5 + 2, none⟩ (.int .i64 y3)) ⟨blk, k * 5 + 3, none⟩ (.int .i64 y4)) ⟨blk, k * 5 + 4, none⟩ (.int .i64 y5)) ⟨blk, (k + 1) * 5, none⟩ (.int .i64 x1)) ⟨blk, (k + 1) * 5 + 1, none⟩ (.int .i64 x2)) ⟨blk, (k + 1) * 5 + 2, none⟩ (.int .i64 x3)) ⟨blk, (k + 1) * 5 + 3, none⟩ (.int .i64 x4)) ⟨blk, (k + 1) * 5 + 4, none⟩ (.int .i64 x5))) = w3 at HSW HTW ⊢
          go_wp2
          go_roundw
          case rel => exact ⟨k + 1, by go_num, by omega, by omega, by rw [← HN.out]; exact HSW, HTW⟩
          case measure => simp only [intOf]; omega
        · obtain rfl : k = i - 1 := by omega
          go_wp2
          go_end0
          exact ⟨rfl, _, HM.out, HF.out, HR.out, HT.out⟩
end Go.Proofs.Ytahioajpmlochaa.NumK
