/- Legs written over; moves and turns. -/
import Derived.Test.YtafglljfgoeapaaRE
import Derived.Deep.RegionHeld3
import Derived.Test.YtafglljfgoeapaaRA2
import Derived.Deep.RegionLaw
namespace Go.Proofs.Ytafglljfgoeapaa.NumK
open Go.RowKit

/-- A block of the call's own: N cells that may be written. -/
def Slab (w : World) (g N : Nat) : Prop := g < w.heap.size ∧ ∀ k, k < N → (∃ v, w.cell? ⟨g, k, none⟩ = some v) ∧ w.frozen? ⟨g, k, none⟩ = false
theorem Slab.keep {w w' : World} {g N : Nat} (h : Slab w g N) (r : Grew w w') : Slab w' g N :=
  ⟨Nat.lt_of_lt_of_le h.1 r.size, fun k hk => by
    obtain ⟨⟨v, hv⟩, hf⟩ := h.2 k hk
    exact ⟨⟨v, (grew_cell r (p := ⟨g, k, none⟩) h.1).trans hv⟩, (Below.frozen r (p := ⟨g, k, none⟩) h.1).trans hf⟩⟩
theorem Slab.set {w : World} {g N : Nat} (h : Slab w g N) (b k : Nat) (x : Value) : Slab (w.setCell ⟨b, k, none⟩ x) g N :=
  ⟨by simpa [World.setCell] using h.1, fun i hi => by
    obtain ⟨⟨v, hv⟩, hf⟩ := h.2 i hi
    refine ⟨?_, by rw [World.frozen?_setCell]; exact hf⟩
    by_cases e : (⟨b, k, none⟩ : Addr) = ⟨g, i, none⟩
    · rw [e]; exact ⟨x, World.cell?_setCell_same _ _ _ hv⟩
    · exact ⟨v, by rw [World.cell?_setCell_other _ _ _ _ e]; exact hv⟩⟩
theorem OwnE.slab {α : Type} {E : En α} {w : World} {base : Nat} {t : TypeId} {v : Value} {l : List α} (h : OwnE E w base t v l) :
    ∃ A c, v = .slice A l.length c ∧ (l.length = 0 ∨ ∃ g, A = some ⟨g, 0, none⟩ ∧ base ≤ g ∧ Slab w g (l.length * E.size)) := by
  obtain ⟨hl, h⟩ := h
  rcases h with ⟨rfl, h0⟩ | ⟨g, cap, cur, rfl, hb, hh, hc, hm, hs, ht⟩
  · rw [h0]; exact ⟨none, 0, rfl, Or.inl rfl⟩
  · refine ⟨some ⟨g, 0, none⟩, cap, rfl, Or.inr ⟨g, rfl, hb, ?_, fun k hk => ⟨?_, ?_⟩⟩⟩
    · rcases Nat.lt_or_ge g w.heap.size with h1 | h1
      · exact h1
      · rw [Array.getElem?_eq_none h1] at hh; cases hh
    · rw [cell_of_row w g _ cur t (0, 0) hh]
      have hlt : k < cur.toList.length := by
        have e1 : (cur.toList.take (l.length * E.size)).length = l.length * E.size := by rw [ht, E.flat_len]
        rw [List.length_take] at e1; omega
      rw [← Array.getElem?_toList, List.getElem?_eq_getElem hlt]
      exact ⟨_, rfl⟩
    · unfold World.frozen?
      simp [hh]

/-- Four cells, one behind the other. -/
abbrev set4 (w : World) (g k : Nat) (a b c d : Value) : World := (((w.setCell ⟨g, k, none⟩ a).setCell ⟨g, k + 1, none⟩ b).setCell ⟨g, k + 2, none⟩ c).setCell ⟨g, k + 3, none⟩ d
theorem set4_other {w : World} {g k : Nat} {a b c d : Value} {B i : Nat} (h : ¬ (B = g ∧ k ≤ i ∧ i < k + 4)) : (set4 w g k a b c d).cell? ⟨B, i, none⟩ = w.cell? ⟨B, i, none⟩ := by
  unfold set4
  rw [World.cell?_setCell_other _ _ _ _ (by intro e; simp only [Addr.mk.injEq] at e; omega), World.cell?_setCell_other _ _ _ _ (by intro e; simp only [Addr.mk.injEq] at e; omega),
    World.cell?_setCell_other _ _ _ _ (by intro e; simp only [Addr.mk.injEq] at e; omega), World.cell?_setCell_other _ _ _ _ (by intro e; simp only [Addr.mk.injEq] at e; omega)]
theorem set4_slab {w : World} {g k : Nat} {a b c d : Value} {B N : Nat} (h : Slab w B N) : Slab (set4 w g k a b c d) B N := (((h.set _ _ _).set _ _ _).set _ _ _).set _ _ _
theorem set4_grew {w w0 : World} {g k : Nat} {a b c d : Value} (h : Grew w0 w) (hg : w0.heap.size ≤ g) : Grew w0 (set4 w g k a b c d) :=
  Below.setCell (Below.setCell (Below.setCell (Below.setCell h hg a) hg b) hg c) hg d
theorem set4_at {w : World} {g k N : Nat} {a b c d : Value} (h : Slab w g N) (hk : k + 4 ≤ N) :
    (set4 w g k a b c d).cell? ⟨g, k, none⟩ = some a ∧ (set4 w g k a b c d).cell? ⟨g, k + 1, none⟩ = some b ∧ (set4 w g k a b c d).cell? ⟨g, k + 2, none⟩ = some c ∧ (set4 w g k a b c d).cell? ⟨g, k + 3, none⟩ = some d := by
  have n : ∀ i j : Nat, i ≠ j → (⟨g, i, none⟩ : Addr) ≠ ⟨g, j, none⟩ := fun i j h e => h (by simp at e)
  obtain ⟨⟨v0, h0⟩, _⟩ := h.2 k (by omega)
  obtain ⟨⟨v1, h1⟩, _⟩ := (h.set g k a).2 (k + 1) (by omega)
  obtain ⟨⟨v2, h2⟩, _⟩ := ((h.set g k a).set g (k + 1) b).2 (k + 2) (by omega)
  obtain ⟨⟨v3, h3⟩, _⟩ := (((h.set g k a).set g (k + 1) b).set g (k + 2) c).2 (k + 3) (by omega)
  unfold set4
  refine ⟨?_, ?_, ?_, World.cell?_setCell_same _ _ _ h3⟩
  · rw [World.cell?_setCell_other _ _ _ _ (n _ _ (by omega)), World.cell?_setCell_other _ _ _ _ (n _ _ (by omega)), World.cell?_setCell_other _ _ _ _ (n _ _ (by omega)), World.cell?_setCell_same _ _ _ h0]
  · rw [World.cell?_setCell_other _ _ _ _ (n _ _ (by omega)), World.cell?_setCell_other _ _ _ _ (n _ _ (by omega)), World.cell?_setCell_same _ _ _ h1]
  · rw [World.cell?_setCell_other _ _ _ _ (n _ _ (by omega)), World.cell?_setCell_same _ _ _ h2]
/-- One leg more in a row of the call's own. -/
theorem RowE.push {w : World} {g j N : Nat} {l : List Lg} (h : RowE enLg w (some ⟨g, 0, none⟩) j l) (hs : Slab w g N) (x : Lg) (hN : (j + 1) * 4 ≤ N) :
    RowE enLg (set4 w g (j * 4) (.int .i64 x.1.1) (.int .i64 x.1.2.1) (.int .i64 x.1.2.2) (.int .i64 x.2)) (some ⟨g, 0, none⟩) (j + 1) (l ++ [x]) := by
  have hl := h.len
  refine ⟨by rw [List.length_append, hl]; rfl, fun _ => ⟨g, 0, rfl, (set4_slab hs).1, fun i hi => ⟨_, rfl, fun q hq => ?_⟩⟩⟩
  have hq : q < 4 := hq
  show World.cell? _ ⟨g, 0 + i * 4 + q, none⟩ = _
  rw [Nat.zero_add]
  rcases Nat.lt_or_ge i j with c | c
  · rw [set4_other (by omega)]
    obtain ⟨b, o, he, hb, hc⟩ := h.at (by omega)
    cases he
    have := hc i (by omega) q hq
    rw [Nat.zero_add] at this
    rw [List.getElem_append_left (by omega)]
    exact this
  · rw [List.length_append, hl] at hi
    have : i = j := by simp at hi; omega
    subst this
    have e1 : (l ++ [x])[i]'(by rw [List.length_append, hl]; exact hi) = x := by rw [List.getElem_append_right (by omega)]; simp [hl]
    rw [e1]
    obtain ⟨h0, h1, h2, h3⟩ := set4_at (a := .int .i64 x.1.1) (b := .int .i64 x.1.2.1) (c := .int .i64 x.1.2.2) (d := .int .i64 x.2) hs (k := i * 4) (by omega)
    match q, hq with
    | 0, _ => exact h0
    | 1, _ => exact h1
    | 2, _ => exact h2
    | 3, _ => exact h3

def turnL (l : List Lg) : List Lg := l.map fun x => (x.1, -(capV x.2))
def moveL (a b : Ac) (n : Int) : List Lg := [(a, -(capV n)), (b, capV n)]
theorem capV_bounds (n : Int) : -4611686018427387904 ≤ capV n ∧ capV n ≤ 4611686018427387904 := by
  unfold capV
  split
  · rename_i h; exact (isMoney_iff n).1 h
  · omega

theorem turned_any (n : Int) (w : World) : Calls Try.prog 43 #[.int .i64 n] w fun e w' => e = .returned (.int .i64 (-(capV n))) ∧ w = w' := by
  have C := fun w => refRight_any n w
  have HC : Hid (capV n = if isMoney n then n else 0) := rfl
  have HM := Lib.hid (isMoney_iff n)
  generalize capV n = c at *
  generalize isMoney n = M at *
  cases M
  · go_enter Try.func43, Try.ntmps43
    go_wp2_with (go_at_call 29; ((with_reducible refine (C _).mono ?_); rintro e w1 ⟨rfl, rfl⟩))
    go_ret
    exact ⟨ret_i (by rw [HC.out]; rfl), rfl⟩
  · obtain ⟨b1, b2⟩ := HM.out.1 rfl
    go_enter Try.func43, Try.ntmps43
    go_wp2_with (go_at_call 29; ((with_reducible refine (C _).mono ?_); rintro e w1 ⟨rfl, rfl⟩))
    go_ret
    exact ⟨ret_i (by rw [HC.out]; rfl), rfl⟩

theorem rowE_two (w : World) (k m c n k' m' c' n' : Int) (t : TypeId) (N : Nat) (hN : w.heap.size = N) :
    RowE enLg (w.alloc (.cells #[.int .i64 k, .int .i64 m, .int .i64 c, .int .i64 n, .int .i64 k', .int .i64 m', .int .i64 c', .int .i64 n'] t)) (some ⟨N, 0, none⟩) 2 [((k, m, c), n), ((k', m', c'), n')] := by
  subst hN
  refine ⟨rfl, fun _ => ⟨_, _, rfl, by simp, fun j hj => ⟨_, rfl, fun i hi => ?_⟩⟩⟩
  have hi : i < 4 := hi
  have hj : j < 2 := hj
  match j, hj, i, hi with
  | 0, _, 0, _ => exact (World.cell?_alloc_at _ _ _ _ rfl).trans rfl
  | 0, _, 1, _ => exact (World.cell?_alloc_at _ _ _ _ rfl).trans rfl
  | 0, _, 2, _ => exact (World.cell?_alloc_at _ _ _ _ rfl).trans rfl
  | 0, _, 3, _ => exact (World.cell?_alloc_at _ _ _ _ rfl).trans rfl
  | 1, _, 0, _ => exact (World.cell?_alloc_at _ _ _ _ rfl).trans rfl
  | 1, _, 1, _ => exact (World.cell?_alloc_at _ _ _ _ rfl).trans rfl
  | 1, _, 2, _ => exact (World.cell?_alloc_at _ _ _ _ rfl).trans rfl
  | 1, _, 3, _ => exact (World.cell?_alloc_at _ _ _ _ rfl).trans rfl
theorem rowL_one (w : World) (k m c n : Int) (t : TypeId) (N : Nat) (hN : w.heap.size = N) : RowE enLg (w.alloc (.cells #[.int .i64 k, .int .i64 m, .int .i64 c, .int .i64 n] t)) (some ⟨N, 0, none⟩) 1 [((k, m, c), n)] := by
  subst hN
  refine ⟨rfl, fun _ => ⟨_, _, rfl, by simp, fun j hj => ⟨_, rfl, fun i hi => ?_⟩⟩⟩
  have hi : i < 4 := hi
  have hj : j < 1 := hj
  match j, hj, i, hi with
  | 0, _, 0, _ => simp [enLg]
  | 0, _, 1, _ => simp [enLg]
  | 0, _, 2, _ => simp [enLg]
  | 0, _, 3, _ => simp [enLg]

theorem two_cells {w w1 : World} {c1 c2 : Array Value} {t1 t2 : TypeId} (h : Grew ((w.alloc (.cells c1 t1)).alloc (.cells c2 t2)) w1) :
    (∀ i, w1.cell? ⟨w.heap.size, i, none⟩ = c1[i]?) ∧ (∀ i, w1.cell? ⟨w.heap.size + 1, i, none⟩ = c2[i]?) ∧ Grew w w1 := by
  refine ⟨fun i => own_cell (own_back h) i, fun i => ?_, own_back (own_back h)⟩
  have := own_cell h i
  rwa [show (w.alloc (.cells c1 t1)).heap.size = w.heap.size + 1 by simp] at this

set_option maxRecDepth 100000 in
theorem refMove_any (k m c k' m' c' n : Int) (w : World) : Calls Try.prog 28 #[acV k m c, acV k' m' c', .int .i64 n] w fun e w' =>
    ∃ A, e = .returned (.slice A 2 2) ∧ RowE enLg w' A 2 (moveL (k, m, c) (k', m', c') n) ∧ Grew w w' := by
  have C := fun w => refRight_any n w
  have HC : Hid (capV n = if isMoney n then n else 0) := rfl
  have HM := Lib.hid (isMoney_iff n)
  unfold moveL
  generalize capV n = x at *
  generalize isMoney n = M at *
  unfold acV
  cases M
  · have hx : x = 0 := by rw [HC.out]; rfl
    subst hx
    go_enter Try.func28, Try.ntmps28
    go_wp2_with (go_at_call 29; ((with_reducible refine (C _).mono ?_); rintro e w1 ⟨rfl, rfl⟩))
    go_ret
    exact ⟨_, rfl, rowE_two _ _ _ _ _ _ _ _ _ _ _ (by simp), grew_trans (grew_trans (grew_alloc _ _ _) (grew_alloc _ _ _)) (grew_alloc _ _ _)⟩
  · have hx : x = n := by rw [HC.out]; rfl
    subst hx
    obtain ⟨b1, b2⟩ := HM.out.1 rfl
    go_enter Try.func28, Try.ntmps28
    go_wp2_with (go_at_call 29; ((with_reducible refine (C _).mono ?_); rintro e w1 ⟨rfl, rfl⟩))
    go_ret
    exact ⟨_, rfl, rowE_two _ _ _ _ _ _ _ _ _ _ _ (by simp), grew_trans (grew_trans (grew_alloc _ _ _) (grew_alloc _ _ _)) (grew_alloc _ _ _)⟩
end Go.Proofs.Ytafglljfgoeapaa.NumK
namespace Go.Proofs.Ytafglljfgoeapaa.NumK
open Go.RowKit

theorem step_append_E {α : Type} {E : En α} {ops : Array Oper} {o : Oper} {a : Act} {w : World} {K : Act → World → Prop} {Q : Exit → Act → World → Prop} {X : Prop} (hgd : o.guard = none) (s x : Operand) (T t : TypeId) (z : Value) (by' : Nat)
    (ho : o.op = .call { callee := .builtin .append, args := #[s, x], argTypes := #[T, T] })
    (hT : Try.prog.underlying T = some (.slice t)) (hi : (Try.prog.info? t).map (fun i => (i.zero, i.size, i.bytes)) = some (some z, E.size, by')) (hz : z.cells.size = E.size)
    (base : Nat) (v : Value) (l : List α) (hs : a.eval s = v) (hown : OwnE E w base t v l)
    (A : Option Addr) (m c : Nat) (zs : List α) (hx : a.eval x = .slice A m c) (hA : A = none → c = 0) (hR : RowE E w A m zs)
    (hm : l.length + m ≤ maxLen) (hlim : (l.length + m) * by' ≤ 140737488355328) (hbase : base ≤ w.heap.size)
    (h : ∀ v' w', OwnE E w' base t v' (l ++ zs) → Below base w w' → K (a.put o.dst v') w') : if Region.wanted o (yielded ops a.tmps) = true then Oper.wp Try.prog o a w K Q else X := by
  have hw : Region.wanted o (yielded ops a.tmps) = true := by simp [Region.wanted, hgd]
  rw [if_pos hw]
  obtain ⟨i, hi, hz0, hz1, hz2⟩ := info_parts hi
  have hl := hR.len
  cases A with
  | none =>
    have hc := hA rfl
    subst hc
    have hm0 : m = 0 := by
      rcases Nat.eq_zero_or_pos m with h0 | h0
      · exact h0
      · obtain ⟨b, o, he, _⟩ := hR.2 h0
        cases he
    subst hm0
    have hz : zs = [] := List.eq_nil_of_length_eq_zero hl
    subst hz
    have hrun := run_append_owned_none (P := Try.prog) (w := w) base T o.type t i E.size hT hi v l.length _ hown
    unfold Oper.wp
    simp [execOp, ho, resolve, invoke, builtin, hs, hx, hrun, Result.andThen]
    exact h v w (by simpa using hown) (Below.refl _ _)
  | some ad =>
    refine wp_append_own w s x T ho base t i z E.size by' hT hi hz0 hz1 hz2 hz E.pos v l.length _ hs hown ad m c (zs.flatMap E.cs) hx (by rw [E.flat_len, hl]) (fun j u hu => ?_) (fun u hu => ?_) hm hlim hbase (fun v' w' ho' hg _ => ?_)
    · have hj : j < zs.length * E.size := by
        rw [← E.flat_len]
        rcases Nat.lt_or_ge j (zs.flatMap E.cs).length with h1 | h1
        · exact h1
        · rw [List.getElem?_eq_none h1] at hu; cases hu
      have hq : j / E.size < zs.length := Nat.div_lt_of_lt_mul (by rw [Nat.mul_comm]; exact hj)
      have hdm : j / E.size * E.size + j % E.size = j := by rw [Nat.mul_comm]; exact Nat.div_add_mod j E.size
      have hmod : j % E.size < E.size := Nat.mod_lt _ E.pos
      obtain ⟨b, o2, he, hb, hc⟩ := hR.at (by rw [← hl]; exact Nat.lt_of_le_of_lt (Nat.zero_le _) hq)
      cases he
      have e1 := hc (j / E.size) hq (j % E.size) hmod
      rw [← E.flat_at zs _ hq _ hmod, hdm, hu] at e1
      rw [addr_add, ← e1, Nat.add_assoc, hdm]
    · obtain ⟨y, _, hy⟩ := List.mem_flatMap.1 hu
      exact E.one y u hy
    · refine h v' w' ?_ ((Below.refl base w).grown hg hbase fun k hk => (hown.lt k hk).1)
      show w'.ownsRow base t E.size v' (l ++ zs).length ((l ++ zs).flatMap E.cs)
      rw [List.length_append, hl, List.flatMap_append]
      exact ho'
end Go.Proofs.Ytafglljfgoeapaa.NumK
namespace Go.Proofs.Ytafglljfgoeapaa.NumK
open Go.RowKit

/-- The run of 'make([]api.Leg, n)'. -/
theorem run_legs (w : World) (n : Nat) (hn : n ≤ 1000000) : (Instr.makeSlice 25 (.int .i64 n) (.int .i64 n)).run Try.prog w = .ok (.slice (some ⟨w.heap.size, 0, none⟩) n n) (w.alloc (.cells (madeCells #[.int .i64 0, .int .i64 0, .int .i64 0, .int .i64 0] (n * 4)) 53)) := by
  obtain ⟨i, hi, hz0, hz1, hz2⟩ := info_parts info_lg
  have := run_make (P := Try.prog) w 25 53 i (legV 0 0 0 0) Try.underlying25 hi hz0 .i64 .i64 n n (by omega) (by omega) (by rw [hz2]; omega) (by omega)
  simpa [hz1, Value.cells, legV] using this
theorem slab_made (w : World) (t : TypeId) (n : Nat) : Slab (w.alloc (.cells (madeCells #[.int .i64 0, .int .i64 0, .int .i64 0, .int .i64 0] (n * 4)) t)) w.heap.size (n * 4) := by
  refine ⟨by simp, fun k hk => ⟨?_, by simp⟩⟩
  rw [World.cell?_alloc_at _ _ _ _ rfl]
  exact ⟨_, Array.getElem?_eq_getElem (by simpa [madeCells] using hk)⟩

theorem keep4 {w1 w2 : World} {B : Nat} {a b c d : Value} (g : Grew w1 w2) (hB : B < w1.heap.size) (h : w1.cell? ⟨B, 0, none⟩ = some a ∧ w1.cell? ⟨B, 1, none⟩ = some b ∧ w1.cell? ⟨B, 2, none⟩ = some c ∧ w1.cell? ⟨B, 3, none⟩ = some d) :
    w2.cell? ⟨B, 0, none⟩ = some a ∧ w2.cell? ⟨B, 1, none⟩ = some b ∧ w2.cell? ⟨B, 2, none⟩ = some c ∧ w2.cell? ⟨B, 3, none⟩ = some d :=
  ⟨(grew_cell g (p := ⟨B, 0, none⟩) hB).trans h.1, (grew_cell g (p := ⟨B, 1, none⟩) hB).trans h.2.1, (grew_cell g (p := ⟨B, 2, none⟩) hB).trans h.2.2.1, (grew_cell g (p := ⟨B, 3, none⟩) hB).trans h.2.2.2⟩
theorem keep4_set {w1 : World} {B g k : Nat} {a b c d x y z u : Value} (hB : B ≠ g) (h : w1.cell? ⟨B, 0, none⟩ = some a ∧ w1.cell? ⟨B, 1, none⟩ = some b ∧ w1.cell? ⟨B, 2, none⟩ = some c ∧ w1.cell? ⟨B, 3, none⟩ = some d) :
    (set4 w1 g k x y z u).cell? ⟨B, 0, none⟩ = some a ∧ (set4 w1 g k x y z u).cell? ⟨B, 1, none⟩ = some b ∧ (set4 w1 g k x y z u).cell? ⟨B, 2, none⟩ = some c ∧ (set4 w1 g k x y z u).cell? ⟨B, 3, none⟩ = some d :=
  ⟨(set4_other (by omega)).trans h.1, (set4_other (by omega)).trans h.2.1, (set4_other (by omega)).trans h.2.2.1, (set4_other (by omega)).trans h.2.2.2⟩

theorem below_alloc {w : World} {base : Nat} (c : Array Value) (t : TypeId) (h : base ≤ w.heap.size) : Below base w (w.alloc (.cells c t)).drew := Below.mono (grew_drew (grew_alloc w c t)) h
theorem keep4o {w1 w2 : World} {base B o : Nat} {a b c d : Value} (g : Below base w1 w2) (hB : B < base) (h : w1.cell? ⟨B, o, none⟩ = some a ∧ w1.cell? ⟨B, o + 1, none⟩ = some b ∧ w1.cell? ⟨B, o + 2, none⟩ = some c ∧ w1.cell? ⟨B, o + 3, none⟩ = some d) :
    w2.cell? ⟨B, o, none⟩ = some a ∧ w2.cell? ⟨B, o + 1, none⟩ = some b ∧ w2.cell? ⟨B, o + 2, none⟩ = some c ∧ w2.cell? ⟨B, o + 3, none⟩ = some d :=
  ⟨(Below.cell g (p := ⟨B, o, none⟩) hB).trans h.1, (Below.cell g (p := ⟨B, o + 1, none⟩) hB).trans h.2.1, (Below.cell g (p := ⟨B, o + 2, none⟩) hB).trans h.2.2.1, (Below.cell g (p := ⟨B, o + 3, none⟩) hB).trans h.2.2.2⟩

theorem turnL_snoc (l : List Lg) (j : Nat) (h : j < l.length) : turnL (l.take (j + 1)) = turnL (l.take j) ++ [((l.getD j lg0).1, -(capV (l.getD j lg0).2))] := by
  unfold turnL
  rw [take_snoc l j lg0 h, List.map_append]; rfl
theorem turnL_len (l : List Lg) : (turnL l).length = l.length := by unfold turnL; simp

set_option maxRecDepth 100000 in
set_option maxHeartbeats 2000000 in
theorem refTurn_any (A : Option Addr) (n c : Nat) (l : List Lg) (w : World) (h : RowE enLg w A n l) (hn : n ≤ 1000000) :
    Calls Try.prog 25 #[.slice A n c] w fun e w' => ∃ v, e = .returned v ∧ OwnE enLg w' w.heap.size 53 v (turnL l) ∧ Grew w w' := by
  have HI := Lib.hid h
  have HL := Lib.hid h.len
  clear h
  go_enter Try.func25, Try.ntmps25
  go_wp2
  go_loopw [3, 4] (fun v3 v4 wr => ∃ j : Nat, v4 = .int .i64 j ∧ j ≤ n ∧ Hid (OwnE enLg wr w.heap.size 53 v3 (turnL (l.take j))) ∧ Hid (Grew w wr)) (fun _ v4 _ => n - (intOf v4).toNat)
  case atStart => exact ⟨0, rfl, by omega, OwnE.nil enLg _ _ _, grew_refl _⟩
  case round =>
    obtain ⟨j, rfl, hj, HO, HG⟩ := hrel
    by_cases hlt : j < n
    · obtain ⟨b, o, rfl, hb, z1, z2, z3, z4⟩ := HI.out.lg hlt
      clear z1 z2 z3 z4
      obtain ⟨b', o', he, z0, a1, a2, a3, a4⟩ := (HI.out.keep HG.out).lg hlt
      cases he
      clear z0
      have HT := Lib.hid (turnL_snoc l j (by rw [HL.out]; exact hlt))
      have HLN : Hid ((turnL (l.take j)).length + 1 ≤ 1000001) := by show _ ≤ _; rw [turnL_len, List.length_take]; omega
      have CM := fun w => turned_any (l.getD j lg0).2 w
      have i0 : (0 : Int) ≤ (j : Int) := by omega
      have i1 : (j : Int) < (n : Int) := by omega
      have HB := Lib.hid hb
      clear hb
      generalize l.getD j lg0 = x at *
      generalize capV x.2 = cx at *
      have HW : Hid (w.heap.size ≤ wr.heap.size) := HG.out.size
      have hc0 : wr.cell? ⟨b, o + j * 4, none⟩ = some (.int .i64 x.1.1) ∧ wr.cell? ⟨b, o + j * 4 + 1, none⟩ = some (.int .i64 x.1.2.1) ∧ wr.cell? ⟨b, o + j * 4 + 2, none⟩ = some (.int .i64 x.1.2.2) ∧ wr.cell? ⟨b, o + j * 4 + 3, none⟩ = some (.int .i64 x.2) := ⟨a1, a2, a3, a4⟩
      clear a1 a2 a3 a4
      go_wp2
      go_region_held3 (fun w' => w'.cell? ⟨b, o + j * 4, none⟩ = some (.int .i64 x.1.1) ∧ w'.cell? ⟨b, o + j * 4 + 1, none⟩ = some (.int .i64 x.1.2.1) ∧ w'.cell? ⟨b, o + j * 4 + 2, none⟩ = some (.int .i64 x.1.2.2) ∧ w'.cell? ⟨b, o + j * 4 + 3, none⟩ = some (.int .i64 x.2))
        (first
          | (with_reducible exact keep4o (Below.drew (Below.refl _ _)) HB.out hc0)
          | (with_reducible exact keep4o (below_alloc _ _ HW.out) HB.out hc0)
          | (with_reducible exact keep4o HG9.out HB.out hc0)
          | (trace_state; fail))
        (first
          | (go_at_call 43; refine (CM _).mono ?_; rintro e w2 ⟨rfl, rfl⟩)
          | (refine step_append_E rfl _ _ 25 53 (legV 0 0 0 0) 32 rfl Try.underlying25 info_lg rfl w.heap.size _ _ rfl (HO.out.keep (grew_drew (grew_alloc _ _ _))) _ 1 1 [(x.1, -cx)] rfl (by intro h; cases h) ((rowL_one _ _ _ _ _ _ _ (by rfl)).keep (grew_drew (grew_refl _))) (by have := HLN.out; unfold maxLen; omega) (by have := HLN.out; omega) (Nat.le_trans HW.out (grew_drew (grew_alloc wr _ _)).size) ?_; intro v5 w5 hv hb5; rw [← HT.out] at hv; have HV5 := Lib.hid hv; have HG5 : Hid (Grew w w5) := Below.trans (grew_trans HG.out (grew_drew (grew_alloc _ _ _))) hb5; have HG9 : Hid (Below w.heap.size wr w5) := Below.trans (below_alloc _ _ HW.out) hb5; clear hv hb5))
      go_wp2
      go_roundw
      case rel => exact ⟨j + 1, by go_num, by omega, HV5, HG5⟩
      case measure => simp only [intOf]; omega
    · obtain rfl : j = n := by omega
      rw [List.take_of_length_le (by rw [HL.out]; exact Nat.le_refl _)] at HO
      go_wp2
      go_ret
      exact ⟨_, rfl, HO.out, HG.out⟩
end Go.Proofs.Ytafglljfgoeapaa.NumK
namespace Go.Proofs.Ytafglljfgoeapaa.NumK
open Go.RowKit

structure Own2 (w : World) (b : Nat) (v0 v1 : Value) : Prop where
  c0 : w.cell? ⟨b, 0, none⟩ = some v0
  c1 : w.cell? ⟨b, 1, none⟩ = some v1
  f0 : w.frozen? ⟨b, 0, none⟩ = false
  f1 : w.frozen? ⟨b, 1, none⟩ = false
  lt : b < w.heap.size

theorem Own2.keep {w w' : World} {b : Nat} {v0 v1 : Value} (h : Own2 w b v0 v1) (g : Grew w w') : Own2 w' b v0 v1 :=
  ⟨(grew_cell g (p := ⟨b, 0, none⟩) h.lt).trans h.c0, (grew_cell g (p := ⟨b, 1, none⟩) h.lt).trans h.c1, (Below.frozen g (p := ⟨b, 0, none⟩) h.lt).trans h.f0, (Below.frozen g (p := ⟨b, 1, none⟩) h.lt).trans h.f1, Nat.lt_of_lt_of_le h.lt g.size⟩
theorem Own2.new (w : World) (v0 v1 : Value) (t : TypeId) (N : Nat) (hN : w.heap.size = N) : Own2 (w.alloc (.cells #[v0, v1] t)) N v0 v1 := by
  subst hN
  exact ⟨by simp, by simp, by simp, by simp, by simp⟩
theorem Own2.set {w : World} {b : Nat} {v0 v1 : Value} (h : Own2 w b v0 v1) (u0 u1 : Value) : Own2 ((w.setCell ⟨b, 0, none⟩ u0).setCell ⟨b, 1, none⟩ u1) b u0 u1 := by
  have k1 : (w.setCell ⟨b, 0, none⟩ u0).cell? ⟨b, 1, none⟩ = some v1 := (World.cell?_setCell_other _ _ _ _ (by intro e; simp at e)).trans h.c1
  refine ⟨?_, World.cell?_setCell_same _ _ _ k1, by rw [World.frozen?_setCell, World.frozen?_setCell]; exact h.f0, by rw [World.frozen?_setCell, World.frozen?_setCell]; exact h.f1, by simp [World.setCell]; exact h.lt⟩
  rw [World.cell?_setCell_other _ _ _ _ (by intro e; simp at e)]
  exact World.cell?_setCell_same _ _ _ h.c0
theorem Own2.other {w : World} {b : Nat} {v0 v1 : Value} (h : Own2 w b v0 v1) (p : Addr) (u : Value) (hp : p.block ≠ b) : Own2 (w.setCell p u) b v0 v1 :=
  ⟨(World.cell?_setCell_other _ _ _ _ (by intro e; apply hp; rw [e])).trans h.c0, (World.cell?_setCell_other _ _ _ _ (by intro e; apply hp; rw [e])).trans h.c1, by rw [World.frozen?_setCell]; exact h.f0, by rw [World.frozen?_setCell]; exact h.f1, by simp [World.setCell]; exact h.lt⟩
end Go.Proofs.Ytafglljfgoeapaa.NumK
