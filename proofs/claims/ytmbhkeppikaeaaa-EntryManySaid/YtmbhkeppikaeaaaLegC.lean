/- Legs written over; moves and turns. -/
import Derived.Test.YtmbhkeppikaeaaaLegB
import Derived.Deep.RegionHeld3
namespace Go.Proofs.Ytmbhkeppikaeaaa.NumK
open Go.RowKit

/-- A block of the call's own: N cells that may be written. -/
def Slab (w : World) (g N : Nat) : Prop := g < w.heap.size ∧ ∀ k, k < N → (∃ v, w.cell? ⟨g, k, none⟩ = some v) ∧ w.frozen? ⟨g, k, none⟩ = false
theorem Slab.keep {w w' : World} {g N : Nat} (h : Slab w g N) (r : Grew w w') : Slab w' g N :=
  ⟨Nat.lt_of_lt_of_le h.1 r.size, fun k hk => by
    obtain ⟨⟨v, hv⟩, hf⟩ := h.2 k hk
    exact ⟨⟨v, (grew_cell r (p := ⟨g, k, none⟩) h.1).trans hv⟩, (Below.frozen r (p := ⟨g, k, none⟩) h.1).trans hf⟩⟩
theorem Slab.set {w : World} {g N : Nat} (h : Slab w g N) (b k : Nat) (x : Value) : Slab (w.setCell ⟨b, k, none⟩ x) g N :=
  ⟨by simpa [World.setCell] using h.1, fun i hi => by
    obtain ⟨⟨v, hv⟩, hf⟩ := h.2 i hi
    refine ⟨?_, by rw [World.frozen?_setCell]; exact hf⟩
    by_cases e : (⟨b, k, none⟩ : Addr) = ⟨g, i, none⟩
    · rw [e]; exact ⟨x, World.cell?_setCell_same _ _ _ hv⟩
    · exact ⟨v, by rw [World.cell?_setCell_other _ _ _ _ e]; exact hv⟩⟩
theorem OwnE.slab {α : Type} {E : En α} {w : World} {base : Nat} {t : TypeId} {v : Value} {l : List α} (h : OwnE E w base t v l) :
    ∃ A c, v = .slice A l.length c ∧ (l.length = 0 ∨ ∃ g, A = some ⟨g, 0, none⟩ ∧ base ≤ g ∧ Slab w g (l.length * E.size)) := by
  obtain ⟨hl, h⟩ := h
  rcases h with ⟨rfl, h0⟩ | ⟨g, cap, cur, rfl, hb, hh, hc, hm, hs, ht⟩
  · rw [h0]; exact ⟨none, 0, rfl, Or.inl rfl⟩
  · refine ⟨some ⟨g, 0, none⟩, cap, rfl, Or.inr ⟨g, rfl, hb, ?_, fun k hk => ⟨?_, ?_⟩⟩⟩
    · rcases Nat.lt_or_ge g w.heap.size with h1 | h1
      · exact h1
      · rw [Array.getElem?_eq_none h1] at hh; cases hh
    · rw [cell_of_row w g _ cur t (0, 0) hh]
      have hlt : k < cur.toList.length := by
        have e1 : (cur.toList.take (l.length * E.size)).length = l.length * E.size := by rw [ht, E.flat_len]
        rw [List.length_take] at e1; omega
      rw [← Array.getElem?_toList, List.getElem?_eq_getElem hlt]
      exact ⟨_, rfl⟩
    · unfold World.frozen?
      simp [hh]

/-- Four cells, one behind the other. -/
abbrev set4 (w : World) (g k : Nat) (a b c d : Value) : World := (((w.setCell ⟨g, k, none⟩ a).setCell ⟨g, k + 1, none⟩ b).setCell ⟨g, k + 2, none⟩ c).setCell ⟨g, k + 3, none⟩ d
theorem set4_other {w : World} {g k : Nat} {a b c d : Value} {B i : Nat} (h : ¬ (B = g ∧ k ≤ i ∧ i < k + 4)) : (set4 w g k a b c d).cell? ⟨B, i, none⟩ = w.cell? ⟨B, i, none⟩ := by
  unfold set4
  rw [World.cell?_setCell_other _ _ _ _ (by intro e; simp only [Addr.mk.injEq] at e; omega), World.cell?_setCell_other _ _ _ _ (by intro e; simp only [Addr.mk.injEq] at e; omega),
    World.cell?_setCell_other _ _ _ _ (by intro e; simp only [Addr.mk.injEq] at e; omega), World.cell?_setCell_other _ _ _ _ (by intro e; simp only [Addr.mk.injEq] at e; omega)]
theorem set4_slab {w : World} {g k : Nat} {a b c d : Value} {B N : Nat} (h : Slab w B N) : Slab (set4 w g k a b c d) B N := (((h.set _ _ _).set _ _ _).set _ _ _).set _ _ _
theorem set4_grew {w w0 : World} {g k : Nat} {a b c d : Value} (h : Grew w0 w) (hg : w0.heap.size ≤ g) : Grew w0 (set4 w g k a b c d) :=
  Below.setCell (Below.setCell (Below.setCell (Below.setCell h hg a) hg b) hg c) hg d
theorem set4_at {w : World} {g k N : Nat} {a b c d : Value} (h : Slab w g N) (hk : k + 4 ≤ N) :
    (set4 w g k a b c d).cell? ⟨g, k, none⟩ = some a ∧ (set4 w g k a b c d).cell? ⟨g, k + 1, none⟩ = some b ∧ (set4 w g k a b c d).cell? ⟨g, k + 2, none⟩ = some c ∧ (set4 w g k a b c d).cell? ⟨g, k + 3, none⟩ = some d := by
  have n : ∀ i j : Nat, i ≠ j → (⟨g, i, none⟩ : Addr) ≠ ⟨g, j, none⟩ := fun i j h e => h (by simp at e)
  obtain ⟨⟨v0, h0⟩, _⟩ := h.2 k (by omega)
  obtain ⟨⟨v1, h1⟩, _⟩ := (h.set g k a).2 (k + 1) (by omega)
  obtain ⟨⟨v2, h2⟩, _⟩ := ((h.set g k a).set g (k + 1) b).2 (k + 2) (by omega)
  obtain ⟨⟨v3, h3⟩, _⟩ := (((h.set g k a).set g (k + 1) b).set g (k + 2) c).2 (k + 3) (by omega)
  unfold set4
  refine ⟨?_, ?_, ?_, World.cell?_setCell_same _ _ _ h3⟩
  · rw [World.cell?_setCell_other _ _ _ _ (n _ _ (by omega)), World.cell?_setCell_other _ _ _ _ (n _ _ (by omega)), World.cell?_setCell_other _ _ _ _ (n _ _ (by omega)), World.cell?_setCell_same _ _ _ h0]
  · rw [World.cell?_setCell_other _ _ _ _ (n _ _ (by omega)), World.cell?_setCell_other _ _ _ _ (n _ _ (by omega)), World.cell?_setCell_same _ _ _ h1]
  · rw [World.cell?_setCell_other _ _ _ _ (n _ _ (by omega)), World.cell?_setCell_same _ _ _ h2]
/-- One leg more in a row of the call's own. -/
theorem RowE.push {w : World} {g j N : Nat} {l : List Lg} (h : RowE enLg w (some ⟨g, 0, none⟩) j l) (hs : Slab w g N) (x : Lg) (hN : (j + 1) * 4 ≤ N) :
    RowE enLg (set4 w g (j * 4) (.int .i64 x.1.1) (.int .i64 x.1.2.1) (.int .i64 x.1.2.2) (.int .i64 x.2)) (some ⟨g, 0, none⟩) (j + 1) (l ++ [x]) := by
  have hl := h.len
  refine ⟨by rw [List.length_append, hl]; rfl, fun _ => ⟨g, 0, rfl, (set4_slab hs).1, fun i hi => ⟨_, rfl, fun q hq => ?_⟩⟩⟩
  have hq : q < 4 := hq
  show World.cell? _ ⟨g, 0 + i * 4 + q, none⟩ = _
  rw [Nat.zero_add]
  rcases Nat.lt_or_ge i j with c | c
  · rw [set4_other (by omega)]
    obtain ⟨b, o, he, hb, hc⟩ := h.at (by omega)
    cases he
    have := hc i (by omega) q hq
    rw [Nat.zero_add] at this
    rw [List.getElem_append_left (by omega)]
    exact this
  · rw [List.length_append, hl] at hi
    have : i = j := by simp at hi; omega
    subst this
    have e1 : (l ++ [x])[i]'(by rw [List.length_append, hl]; exact hi) = x := by rw [List.getElem_append_right (by omega)]; simp [hl]
    rw [e1]
    obtain ⟨h0, h1, h2, h3⟩ := set4_at (a := .int .i64 x.1.1) (b := .int .i64 x.1.2.1) (c := .int .i64 x.1.2.2) (d := .int .i64 x.2) hs (k := i * 4) (by omega)
    match q, hq with
    | 0, _ => exact h0
    | 1, _ => exact h1
    | 2, _ => exact h2
    | 3, _ => exact h3

theorem spoilLegs_any (A : Option Addr) (n c base : Nat) (w : World) (hA : n = 0 ∨ ∃ g, A = some ⟨g, 0, none⟩ ∧ base ≤ g ∧ Slab w g (n * 4)) (hn : n ≤ 1000000) :
    Calls Try.prog 15 #[.slice A n c] w fun e w' => e = .returned (.tuple #[]) ∧ Below base w w' := by
  have HA := Lib.hid hA
  clear hA
  go_enter Try.func15, Try.ntmps15
  go_wp2
  go_loopw [2] (fun vi wr => ∃ k : Nat, vi = .int .i64 k ∧ k ≤ n ∧ Hid (∀ g, A = some ⟨g, 0, none⟩ → 0 < n → Slab wr g (n * 4)) ∧ Hid (Below base w wr)) (fun vi _ => n - (intOf vi).toNat)
  case atStart =>
    refine ⟨0, rfl, Nat.zero_le _, fun g hg h0 => ?_, Below.refl _ _⟩
    rcases HA.out with h | ⟨g', e, _, hs⟩
    · omega
    · rw [hg] at e; cases e; exact hs
  case round =>
    obtain ⟨k, rfl, hk, HS, HB⟩ := hrel
    by_cases hlt : k < n
    · obtain ⟨g, rfl, hb, _⟩ : ∃ g, A = some ⟨g, 0, none⟩ ∧ base ≤ g ∧ Slab w g (n * 4) := by
        rcases HA.out with h | h
        · omega
        · exact h
      have HS2 := Lib.hid (HS.out g rfl (by omega))
      obtain ⟨⟨x, a1⟩, a2⟩ := HS2.out.2 (k * 4 + 1) (by omega)
      have a3 : (k : Int) < (n : Int) := by omega
      have HB2 : Hid (Below base w (wr.setCell ⟨g, k * 4 + 1, none⟩ (.int .i64 (-77)))) := Below.setCell HB.out hb _
      have HS3 := Lib.hid (HS2.out.set g (k * 4 + 1) (.int .i64 (-77)))
      go_wp2
      go_roundw
      case rel => exact ⟨k + 1, by go_num, by omega, fun g' hg' _ => by cases hg'; exact HS3.out, HB2⟩
      case measure => simp only [intOf]; omega
    · go_wp2
      go_end0
      exact ⟨rfl, HB.out⟩

def turnL (l : List Lg) : List Lg := l.map fun x => (x.1, -(capV x.2))
def moveL (a b : Ac) (n : Int) : List Lg := [(a, -(capV n)), (b, capV n)]
theorem capV_bounds (n : Int) : -4611686018427387904 ≤ capV n ∧ capV n ≤ 4611686018427387904 := by
  unfold capV
  split
  · rename_i h; exact (isMoney_iff n).1 h
  · omega

theorem money_any (n : Int) (w : World) : Calls Try.prog 32 #[.int .i64 n] w fun e w' => e = .returned (.int .i64 (capV n)) ∧ Grew w w' := by
  have C := fun w N hN => num1 n w N hN
  have HC : Hid (capV n = if isMoney n then n else 0) := rfl
  generalize capV n = c at *
  generalize isMoney n = M at *
  go_enter Try.func32, Try.ntmps32
  cases M
  · go_wp2_with (go_at_call 36; ((with_reducible refine (C _ _ rfl).mono ?_); rintro e w1 ⟨rfl, rfl⟩))
    go_ret
    exact ⟨ret_i (by rw [HC.out]; rfl), grew_alloc _ _ _⟩
  · go_wp2_with (go_at_call 36; ((with_reducible refine (C _ _ rfl).mono ?_); rintro e w1 ⟨rfl, rfl⟩))
    go_ret
    exact ⟨ret_i (by rw [HC.out]; rfl), grew_alloc _ _ _⟩

theorem turned_any (n : Int) (w : World) : Calls Try.prog 33 #[.int .i64 n] w fun e w' => e = .returned (.int .i64 (-(capV n))) ∧ w = w' := by
  have C := fun w => refRight_any n w
  have HC : Hid (capV n = if isMoney n then n else 0) := rfl
  have HM := Lib.hid (isMoney_iff n)
  generalize capV n = c at *
  generalize isMoney n = M at *
  cases M
  · go_enter Try.func33, Try.ntmps33
    go_wp2_with (go_at_call 34; ((with_reducible refine (C _).mono ?_); rintro e w1 ⟨rfl, rfl⟩))
    go_ret
    exact ⟨ret_i (by rw [HC.out]; rfl), rfl⟩
  · obtain ⟨b1, b2⟩ := HM.out.1 rfl
    go_enter Try.func33, Try.ntmps33
    go_wp2_with (go_at_call 34; ((with_reducible refine (C _).mono ?_); rintro e w1 ⟨rfl, rfl⟩))
    go_ret
    exact ⟨ret_i (by rw [HC.out]; rfl), rfl⟩

theorem rowE_two (w : World) (k m c n k' m' c' n' : Int) (t : TypeId) (N : Nat) (hN : w.heap.size = N) :
    RowE enLg (w.alloc (.cells #[.int .i64 k, .int .i64 m, .int .i64 c, .int .i64 n, .int .i64 k', .int .i64 m', .int .i64 c', .int .i64 n'] t)) (some ⟨N, 0, none⟩) 2 [((k, m, c), n), ((k', m', c'), n')] := by
  subst hN
  refine ⟨rfl, fun _ => ⟨_, _, rfl, by simp, fun j hj => ⟨_, rfl, fun i hi => ?_⟩⟩⟩
  have hi : i < 4 := hi
  have hj : j < 2 := hj
  match j, hj, i, hi with
  | 0, _, 0, _ => exact (World.cell?_alloc_at _ _ _ _ rfl).trans rfl
  | 0, _, 1, _ => exact (World.cell?_alloc_at _ _ _ _ rfl).trans rfl
  | 0, _, 2, _ => exact (World.cell?_alloc_at _ _ _ _ rfl).trans rfl
  | 0, _, 3, _ => exact (World.cell?_alloc_at _ _ _ _ rfl).trans rfl
  | 1, _, 0, _ => exact (World.cell?_alloc_at _ _ _ _ rfl).trans rfl
  | 1, _, 1, _ => exact (World.cell?_alloc_at _ _ _ _ rfl).trans rfl
  | 1, _, 2, _ => exact (World.cell?_alloc_at _ _ _ _ rfl).trans rfl
  | 1, _, 3, _ => exact (World.cell?_alloc_at _ _ _ _ rfl).trans rfl
theorem rowL_one (w : World) (k m c n : Int) (t : TypeId) (N : Nat) (hN : w.heap.size = N) : RowE enLg (w.alloc (.cells #[.int .i64 k, .int .i64 m, .int .i64 c, .int .i64 n] t)) (some ⟨N, 0, none⟩) 1 [((k, m, c), n)] := by
  subst hN
  refine ⟨rfl, fun _ => ⟨_, _, rfl, by simp, fun j hj => ⟨_, rfl, fun i hi => ?_⟩⟩⟩
  have hi : i < 4 := hi
  have hj : j < 1 := hj
  match j, hj, i, hi with
  | 0, _, 0, _ => simp [enLg]
  | 0, _, 1, _ => simp [enLg]
  | 0, _, 2, _ => simp [enLg]
  | 0, _, 3, _ => simp [enLg]

theorem two_cells {w w1 : World} {c1 c2 : Array Value} {t1 t2 : TypeId} (h : Grew ((w.alloc (.cells c1 t1)).alloc (.cells c2 t2)) w1) :
    (∀ i, w1.cell? ⟨w.heap.size, i, none⟩ = c1[i]?) ∧ (∀ i, w1.cell? ⟨w.heap.size + 1, i, none⟩ = c2[i]?) ∧ Grew w w1 := by
  refine ⟨fun i => own_cell (own_back h) i, fun i => ?_, own_back (own_back h)⟩
  have := own_cell h i
  rwa [show (w.alloc (.cells c1 t1)).heap.size = w.heap.size + 1 by simp] at this

set_option maxRecDepth 100000 in
theorem move_any (k m c k' m' c' n : Int) (w : World) : Calls Try.prog 19 #[acV k m c, acV k' m' c', .int .i64 n] w fun e w' =>
    ∃ A, e = .returned (.slice A 2 2) ∧ RowE enLg w' A 2 (moveL (k, m, c) (k', m', c') n) ∧ Grew w w' := by
  have C := fun w => money_any n w
  have HB := capV_bounds n
  unfold moveL
  generalize capV n = x at *
  obtain ⟨b1, b2⟩ := HB
  unfold acV
  go_enter Try.func19, Try.ntmps19
  go_wp2_with (go_at_call 32; ((with_reducible refine (C _).mono ?_); rintro e w1 ⟨rfl, hg⟩; obtain ⟨g1, g2, hg⟩ := two_cells hg; have x0 := g1 0; have x1 := g1 1; have x2 := g1 2; have y0 := g2 0; have y1 := g2 1; have y2 := g2 2; have HG := Lib.hid hg; clear g1 g2 hg))
  go_ret
  exact ⟨_, rfl, rowE_two _ _ _ _ _ _ _ _ _ _ _ rfl, grew_trans HG.out (grew_alloc _ _ _)⟩

set_option maxRecDepth 100000 in
theorem refMove_any (k m c k' m' c' n : Int) (w : World) : Calls Try.prog 20 #[acV k m c, acV k' m' c', .int .i64 n] w fun e w' =>
    ∃ A, e = .returned (.slice A 2 2) ∧ RowE enLg w' A 2 (moveL (k, m, c) (k', m', c') n) ∧ Grew w w' := by
  have C := fun w => refRight_any n w
  have HC : Hid (capV n = if isMoney n then n else 0) := rfl
  have HM := Lib.hid (isMoney_iff n)
  unfold moveL
  generalize capV n = x at *
  generalize isMoney n = M at *
  unfold acV
  cases M
  · have hx : x = 0 := by rw [HC.out]; rfl
    subst hx
    go_enter Try.func20, Try.ntmps20
    go_wp2_with (go_at_call 34; ((with_reducible refine (C _).mono ?_); rintro e w1 ⟨rfl, rfl⟩))
    go_ret
    exact ⟨_, rfl, rowE_two _ _ _ _ _ _ _ _ _ _ _ (by simp), grew_trans (grew_trans (grew_alloc _ _ _) (grew_alloc _ _ _)) (grew_alloc _ _ _)⟩
  · have hx : x = n := by rw [HC.out]; rfl
    subst hx
    obtain ⟨b1, b2⟩ := HM.out.1 rfl
    go_enter Try.func20, Try.ntmps20
    go_wp2_with (go_at_call 34; ((with_reducible refine (C _).mono ?_); rintro e w1 ⟨rfl, rfl⟩))
    go_ret
    exact ⟨_, rfl, rowE_two _ _ _ _ _ _ _ _ _ _ _ (by simp), grew_trans (grew_trans (grew_alloc _ _ _) (grew_alloc _ _ _)) (grew_alloc _ _ _)⟩
end Go.Proofs.Ytmbhkeppikaeaaa.NumK
