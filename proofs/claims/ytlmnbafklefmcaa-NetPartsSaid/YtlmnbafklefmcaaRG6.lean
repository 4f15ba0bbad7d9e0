/- Legs written over; moves and turns. -/
import Derived.Test.YtlmnbafklefmcaaRG2
import Derived.Deep.RegionHeld3
import Derived.Test.YtlmnbafklefmcaaRG3
import Derived.Test.YtlmnbafklefmcaaRG1
import Derived.Deep.RegionWith
import Derived.ChangeKeysEq
import Derived.Laws.StructEq
namespace Go.Proofs.Ytlmnbafklefmcaa.NumK
open Go.RowKit

/-- Four cells, one behind the other. -/
abbrev set4 (w : World) (g k : Nat) (a b c d : Value) : World := (((w.setCell ⟨g, k, none⟩ a).setCell ⟨g, k + 1, none⟩ b).setCell ⟨g, k + 2, none⟩ c).setCell ⟨g, k + 3, none⟩ d
theorem set4_other {w : World} {g k : Nat} {a b c d : Value} {B i : Nat} (h : ¬ (B = g ∧ k ≤ i ∧ i < k + 4)) : (set4 w g k a b c d).cell? ⟨B, i, none⟩ = w.cell? ⟨B, i, none⟩ := by
  unfold set4
  rw [World.cell?_setCell_other _ _ _ _ (by intro e; simp only [Addr.mk.injEq] at e; omega), World.cell?_setCell_other _ _ _ _ (by intro e; simp only [Addr.mk.injEq] at e; omega),
    World.cell?_setCell_other _ _ _ _ (by intro e; simp only [Addr.mk.injEq] at e; omega), World.cell?_setCell_other _ _ _ _ (by intro e; simp only [Addr.mk.injEq] at e; omega)]
theorem set4_slab {w : World} {g k : Nat} {a b c d : Value} {B N : Nat} (h : Slab w B N) : Slab (set4 w g k a b c d) B N := (((h.set _ _ _).set _ _ _).set _ _ _).set _ _ _
theorem set4_at {w : World} {g k N : Nat} {a b c d : Value} (h : Slab w g N) (hk : k + 4 ≤ N) :
    (set4 w g k a b c d).cell? ⟨g, k, none⟩ = some a ∧ (set4 w g k a b c d).cell? ⟨g, k + 1, none⟩ = some b ∧ (set4 w g k a b c d).cell? ⟨g, k + 2, none⟩ = some c ∧ (set4 w g k a b c d).cell? ⟨g, k + 3, none⟩ = some d := by
  have n : ∀ i j : Nat, i ≠ j → (⟨g, i, none⟩ : Addr) ≠ ⟨g, j, none⟩ := fun i j h e => h (by simp at e)
  obtain ⟨⟨v0, h0⟩, _⟩ := h.2 k (by omega)
  obtain ⟨⟨v1, h1⟩, _⟩ := (h.set g k a).2 (k + 1) (by omega)
  obtain ⟨⟨v2, h2⟩, _⟩ := ((h.set g k a).set g (k + 1) b).2 (k + 2) (by omega)
  obtain ⟨⟨v3, h3⟩, _⟩ := (((h.set g k a).set g (k + 1) b).set g (k + 2) c).2 (k + 3) (by omega)
  unfold set4
  refine ⟨?_, ?_, ?_, World.cell?_setCell_same _ _ _ h3⟩
  · rw [World.cell?_setCell_other _ _ _ _ (n _ _ (by omega)), World.cell?_setCell_other _ _ _ _ (n _ _ (by omega)), World.cell?_setCell_other _ _ _ _ (n _ _ (by omega)), World.cell?_setCell_same _ _ _ h0]
  · rw [World.cell?_setCell_other _ _ _ _ (n _ _ (by omega)), World.cell?_setCell_other _ _ _ _ (n _ _ (by omega)), World.cell?_setCell_same _ _ _ h1]
  · rw [World.cell?_setCell_other _ _ _ _ (n _ _ (by omega)), World.cell?_setCell_same _ _ _ h2]
/-- One leg more in a row of the call's own. -/
theorem RowE.push {w : World} {g j N : Nat} {l : List Lg} (h : RowE enLg w (some ⟨g, 0, none⟩) j l) (hs : Slab w g N) (x : Lg) (hN : (j + 1) * 4 ≤ N) :
    RowE enLg (set4 w g (j * 4) (.int .i64 x.1.1) (.int .i64 x.1.2.1) (.int .i64 x.1.2.2) (.int .i64 x.2)) (some ⟨g, 0, none⟩) (j + 1) (l ++ [x]) := by
  have hl := h.len
  refine ⟨by rw [List.length_append, hl]; rfl, fun _ => ⟨g, 0, rfl, (set4_slab hs).1, fun i hi => ⟨_, rfl, fun q hq => ?_⟩⟩⟩
  have hq : q < 4 := hq
  show World.cell? _ ⟨g, 0 + i * 4 + q, none⟩ = _
  rw [Nat.zero_add]
  rcases Nat.lt_or_ge i j with c | c
  · rw [set4_other (by omega)]
    obtain ⟨b, o, he, hb, hc⟩ := h.at (by omega)
    cases he
    have := hc i (by omega) q hq
    rw [Nat.zero_add] at this
    rw [List.getElem_append_left (by omega)]
    exact this
  · rw [List.length_append, hl] at hi
    have : i = j := by simp at hi; omega
    subst this
    have e1 : (l ++ [x])[i]'(by rw [List.length_append, hl]; exact hi) = x := by rw [List.getElem_append_right (by omega)]; simp [hl]
    rw [e1]
    obtain ⟨h0, h1, h2, h3⟩ := set4_at (a := .int .i64 x.1.1) (b := .int .i64 x.1.2.1) (c := .int .i64 x.1.2.2) (d := .int .i64 x.2) hs (k := i * 4) (by omega)
    match q, hq with
    | 0, _ => exact h0
    | 1, _ => exact h1
    | 2, _ => exact h2
    | 3, _ => exact h3

def turnL (l : List Lg) : List Lg := l.map fun x => (x.1, -(capV x.2))
def moveL (a b : Ac) (n : Int) : List Lg := [(a, -(capV n)), (b, capV n)]
theorem capV_bounds (n : Int) : -4611686018427387904 ≤ capV n ∧ capV n ≤ 4611686018427387904 := by
  unfold capV
  split
  · rename_i h; exact (isMoney_iff n).1 h
  · omega

theorem rowE_two (w : World) (k m c n k' m' c' n' : Int) (t : TypeId) (N : Nat) (hN : w.heap.size = N) :
    RowE enLg (w.alloc (.cells #[.int .i64 k, .int .i64 m, .int .i64 c, .int .i64 n, .int .i64 k', .int .i64 m', .int .i64 c', .int .i64 n'] t)) (some ⟨N, 0, none⟩) 2 [((k, m, c), n), ((k', m', c'), n')] := by
  subst hN
  refine ⟨rfl, fun _ => ⟨_, _, rfl, by simp, fun j hj => ⟨_, rfl, fun i hi => ?_⟩⟩⟩
  have hi : i < 4 := hi
  have hj : j < 2 := hj
  match j, hj, i, hi with
  | 0, _, 0, _ => exact (World.cell?_alloc_at _ _ _ _ rfl).trans rfl
  | 0, _, 1, _ => exact (World.cell?_alloc_at _ _ _ _ rfl).trans rfl
  | 0, _, 2, _ => exact (World.cell?_alloc_at _ _ _ _ rfl).trans rfl
  | 0, _, 3, _ => exact (World.cell?_alloc_at _ _ _ _ rfl).trans rfl
  | 1, _, 0, _ => exact (World.cell?_alloc_at _ _ _ _ rfl).trans rfl
  | 1, _, 1, _ => exact (World.cell?_alloc_at _ _ _ _ rfl).trans rfl
  | 1, _, 2, _ => exact (World.cell?_alloc_at _ _ _ _ rfl).trans rfl
  | 1, _, 3, _ => exact (World.cell?_alloc_at _ _ _ _ rfl).trans rfl
theorem rowL_one (w : World) (k m c n : Int) (t : TypeId) (N : Nat) (hN : w.heap.size = N) : RowE enLg (w.alloc (.cells #[.int .i64 k, .int .i64 m, .int .i64 c, .int .i64 n] t)) (some ⟨N, 0, none⟩) 1 [((k, m, c), n)] := by
  subst hN
  refine ⟨rfl, fun _ => ⟨_, _, rfl, by simp, fun j hj => ⟨_, rfl, fun i hi => ?_⟩⟩⟩
  have hi : i < 4 := hi
  have hj : j < 1 := hj
  match j, hj, i, hi with
  | 0, _, 0, _ => simp [enLg]
  | 0, _, 1, _ => simp [enLg]
  | 0, _, 2, _ => simp [enLg]
  | 0, _, 3, _ => simp [enLg]

theorem two_cells {w w1 : World} {c1 c2 : Array Value} {t1 t2 : TypeId} (h : Grew ((w.alloc (.cells c1 t1)).alloc (.cells c2 t2)) w1) :
    (∀ i, w1.cell? ⟨w.heap.size, i, none⟩ = c1[i]?) ∧ (∀ i, w1.cell? ⟨w.heap.size + 1, i, none⟩ = c2[i]?) ∧ Grew w w1 := by
  refine ⟨fun i => own_cell (own_back h) i, fun i => ?_, own_back (own_back h)⟩
  have := own_cell h i
  rwa [show (w.alloc (.cells c1 t1)).heap.size = w.heap.size + 1 by simp] at this

end Go.Proofs.Ytlmnbafklefmcaa.NumK
namespace Go.Proofs.Ytlmnbafklefmcaa.NumK
open Go.RowKit

theorem keep4 {w1 w2 : World} {B : Nat} {a b c d : Value} (g : Grew w1 w2) (hB : B < w1.heap.size) (h : w1.cell? ⟨B, 0, none⟩ = some a ∧ w1.cell? ⟨B, 1, none⟩ = some b ∧ w1.cell? ⟨B, 2, none⟩ = some c ∧ w1.cell? ⟨B, 3, none⟩ = some d) :
    w2.cell? ⟨B, 0, none⟩ = some a ∧ w2.cell? ⟨B, 1, none⟩ = some b ∧ w2.cell? ⟨B, 2, none⟩ = some c ∧ w2.cell? ⟨B, 3, none⟩ = some d :=
  ⟨(grew_cell g (p := ⟨B, 0, none⟩) hB).trans h.1, (grew_cell g (p := ⟨B, 1, none⟩) hB).trans h.2.1, (grew_cell g (p := ⟨B, 2, none⟩) hB).trans h.2.2.1, (grew_cell g (p := ⟨B, 3, none⟩) hB).trans h.2.2.2⟩
end Go.Proofs.Ytlmnbafklefmcaa.NumK
namespace Go.Proofs.Ytlmnbafklefmcaa.NumK
open Go.RowKit

theorem right1 (n : Int) (b : Bool) (h : isMoney n = b) (w : World) :
    Calls Try.prog 40 #[.slice (some ⟨w.heap.size, 0, none⟩) 1 1] (w.alloc (.cells #[.int .i64 n] 3)).drew fun e w' => e = .returned (.bool b) ∧ (w.alloc (.cells #[.int .i64 n] 3)).drew = w' := by
  have C := right_any (some ⟨w.heap.size, 0, none⟩) 1 1 [n] _ ((ints1 w n 3).keep (grew_drew (grew_refl _))) (by omega)
  have e : [n].all isMoney = b := by simp [h]
  rw [e] at C
  exact C

set_option maxHeartbeats 1000000 in
theorem wint_money (x : Int) (w : World) (h : isMoney x = true) :
    Calls Try.prog 57 #[(.agg #[.int .i64 (hi64 (x)), .int .u64 (lo64 (x))])] w fun e w' => e = .returned (.tuple #[.int .i64 (capV x), .int .i64 (capE x)]) ∧ Grew w w' := by
  have hx := (isMoney_iff x).1 h
  have b1 := lo_bounds x
  have L : wrap64 (lo64 x) = x := by unfold wrap64 lo64; omega
  have C1 := fun w => sign_any x w (by omega)
  rw [hi_of x (by omega)] at C1
  have C2 := right1 x true h
  have E1 := Lib.hid (capV_in h)
  have E2 := Lib.hid (capE_in h)
  clear h hx b1
  generalize hi64 x = hh at *
  generalize lo64 x = l at *
  go_enter Try.func57, Try.ntmps57
  go_wp2
  have h0 : (w.alloc (.cells #[.int .i64 hh, .int .u64 l] 81)).cell? ⟨w.heap.size, 0, none⟩ = some (.int .i64 hh) ∧ (w.alloc (.cells #[.int .i64 hh, .int .u64 l] 81)).cell? ⟨w.heap.size, 1, none⟩ = some (.int .u64 l) ∧ w.heap.size < (w.alloc (.cells #[.int .i64 hh, .int .u64 l] 81)).heap.size ∧ Grew w (w.alloc (.cells #[.int .i64 hh, .int .u64 l] 81)) := ⟨by simp, by simp, by simp, grew_alloc _ _ _⟩
  generalize w.alloc (.cells #[.int .i64 hh, .int .u64 l] 81) = w0 at h0 ⊢
  obtain ⟨h1, h2, h3, h4⟩ := h0
  go_region_held3 (fun w' => w'.cell? ⟨w.heap.size, 0, none⟩ = some (.int .i64 hh) ∧ w'.cell? ⟨w.heap.size, 1, none⟩ = some (.int .u64 l) ∧ w.heap.size < w'.heap.size ∧ Grew w w')
    (first
      | (exact keep2 (grew_drew (grew_refl _)) h1 h2 h3 h4)
      | (exact keep2 (grew_drew (grew_alloc _ _ _)) h1 h2 h3 h4)
      | (trace_state; fail))
    (first
      | (go_at_call 70; refine (C1 _).mono ?_; rintro e w1 ⟨rfl, rfl⟩)
      | (go_at_call 40; refine (C2 _).mono ?_; rintro e w2 ⟨rfl, rfl⟩))
  rename_i hS
  go_wp2
  go_ret2
  exact ⟨ret2 E1.out.symm E2.out.symm, hS.2.2.2⟩
set_option maxHeartbeats 1000000 in
theorem wint_near (x : Int) (w : World) (h : isMoney x = false) (L : wrap64 (lo64 x) = x) :
    Calls Try.prog 57 #[(.agg #[.int .i64 (hi64 (x)), .int .u64 (lo64 (x))])] w fun e w' => e = .returned (.tuple #[.int .i64 (capV x), .int .i64 (capE x)]) ∧ Grew w w' := by
  have b1 := lo_bounds x
  have bn : -9223372036854775808 ≤ wrap64 (lo64 x) ∧ wrap64 (lo64 x) ≤ 9223372036854775807 := by unfold wrap64; omega
  rw [L] at bn
  have C1 := fun w => sign_any x w bn
  rw [hi_of x bn] at C1
  have C2 := right1 x false h
  have E1 := Lib.hid (capV_out h)
  have E2 := Lib.hid (capE_out h)
  clear h b1
  generalize hi64 x = hh at *
  generalize lo64 x = l at *
  go_enter Try.func57, Try.ntmps57
  go_wp2
  have h0 : (w.alloc (.cells #[.int .i64 hh, .int .u64 l] 81)).cell? ⟨w.heap.size, 0, none⟩ = some (.int .i64 hh) ∧ (w.alloc (.cells #[.int .i64 hh, .int .u64 l] 81)).cell? ⟨w.heap.size, 1, none⟩ = some (.int .u64 l) ∧ w.heap.size < (w.alloc (.cells #[.int .i64 hh, .int .u64 l] 81)).heap.size ∧ Grew w (w.alloc (.cells #[.int .i64 hh, .int .u64 l] 81)) := ⟨by simp, by simp, by simp, grew_alloc _ _ _⟩
  generalize w.alloc (.cells #[.int .i64 hh, .int .u64 l] 81) = w0 at h0 ⊢
  obtain ⟨h1, h2, h3, h4⟩ := h0
  go_region_held3 (fun w' => w'.cell? ⟨w.heap.size, 0, none⟩ = some (.int .i64 hh) ∧ w'.cell? ⟨w.heap.size, 1, none⟩ = some (.int .u64 l) ∧ w.heap.size < w'.heap.size ∧ Grew w w')
    (first
      | (exact keep2 (grew_drew (grew_refl _)) h1 h2 h3 h4)
      | (exact keep2 (grew_drew (grew_alloc _ _ _)) h1 h2 h3 h4)
      | (trace_state; fail))
    (first
      | (go_at_call 70; refine (C1 _).mono ?_; rintro e w1 ⟨rfl, rfl⟩)
      | (go_at_call 40; refine (C2 _).mono ?_; rintro e w2 ⟨rfl, rfl⟩))
  rename_i hS
  go_wp2
  go_ret2
  exact ⟨ret2 E1.out.symm E2.out.symm, hS.2.2.2⟩

set_option maxHeartbeats 1000000 in
theorem wint_far (x : Int) (w : World) (h : isMoney x = false) (hf : hi64 (wrap64 (lo64 x)) ≠ hi64 x) :
    Calls Try.prog 57 #[(.agg #[.int .i64 (hi64 (x)), .int .u64 (lo64 (x))])] w fun e w' => e = .returned (.tuple #[.int .i64 (capV x), .int .i64 (capE x)]) ∧ Grew w w' := by
  have b1 := lo_bounds x
  have bn : -9223372036854775808 ≤ wrap64 (lo64 x) ∧ wrap64 (lo64 x) ≤ 9223372036854775807 := by unfold wrap64; omega
  have C1 := fun w => sign_any (wrap64 (lo64 x)) w bn
  rw [hi_of _ bn] at C1
  have E1 := Lib.hid (capV_out h)
  have E2 := Lib.hid (capE_out h)
  have d1 : (hi64 x == hi64 (wrap64 (lo64 x))) = false := by simpa using (Ne.symm hf)
  have d2 : (hi64 x != hi64 (wrap64 (lo64 x))) = true := by simpa using (Ne.symm hf)
  clear h b1 hf
  generalize hi64 (wrap64 (lo64 x)) = hn at *
  generalize hi64 x = hh at *
  generalize lo64 x = l at *
  go_enter Try.func57, Try.ntmps57
  go_wp2
  first
  | (go_region_with (first
      | (go_at_call 70; refine (C1 _).mono ?_; rintro e w1 ⟨rfl, rfl⟩)))
  | fail
  all_goals
    go_wp2
    go_ret2
    exact ⟨ret2 E1.out.symm E2.out.symm, grew_drew (grew_alloc _ _ _)⟩

theorem wint_any (x : Int) (w : World) :
    Calls Try.prog 57 #[(.agg #[.int .i64 (hi64 (x)), .int .u64 (lo64 (x))])] w fun e w' => e = .returned (.tuple #[.int .i64 (capV x), .int .i64 (capE x)]) ∧ Grew w w' := by
  by_cases h : isMoney x = true
  · exact wint_money x w h
  · simp only [Bool.not_eq_true] at h
    by_cases hf : hi64 (wrap64 (lo64 x)) = hi64 x
    · refine wint_near x w h ?_
      have b1 := lo_bounds x
      have e1 := w_eq x
      have e2 := w_eq (wrap64 (lo64 x))
      have hl : lo64 (wrap64 (lo64 x)) = lo64 x := by unfold wrap64 lo64; omega
      rw [hf, hl] at e2
      omega
    · exact wint_far x w h hf
end Go.Proofs.Ytlmnbafklefmcaa.NumK
namespace Go.Proofs.Ytlmnbafklefmcaa.NumK
open Go.RowKit

end Go.Proofs.Ytlmnbafklefmcaa.NumK
namespace Go.Proofs.Ytlmnbafklefmcaa.NumK
open Go.RowKit

theorem sum2 (x y : Int) (w : World) (N : Nat) (hN : w.heap.size = N) (hx : isWide x = true) (hy : isWide y = true) (hs : isWide (x + y) = true) :
    Calls Try.prog 66 #[.slice (some ⟨N, 0, none⟩) 2 2] (w.alloc (.cells #[.int .i64 (hi64 x), .int .u64 (lo64 x), .int .i64 (hi64 y), .int .u64 (lo64 y)] 81)) fun e w' => e = .returned (.tuple #[.agg #[.int .i64 (hi64 (x + y)), .int .u64 (lo64 (x + y))], .int .i64 0]) ∧ Grew (w.alloc (.cells #[.int .i64 (hi64 x), .int .u64 (lo64 x), .int .i64 (hi64 y), .int .u64 (lo64 y)] 81)) w' := by
  have C := wsum_any (some ⟨N, 0, none⟩) 2 2 [x, y] _ (wides2 w x y 81 N hN) (by simp [hx, hy]) (by omega)
  have e : [x, y].sum = x + y := by simp
  rw [e, wsV, if_pos hs, wideE, if_pos hs] at C
  exact C

set_option maxRecDepth 100000 in
set_option maxHeartbeats 1000000 in
theorem plus_any (x y : Int) (w : World) (hx : isWide x = true) (hy : -9223372036854775808 ≤ y ∧ y ≤ 9223372036854775807) (hs : isWide (x + y) = true) :
    Calls Try.prog 55 #[.agg #[.int .i64 (hi64 x), .int .u64 (lo64 x)], .int .i64 y] w fun e w' => e = .returned (.agg #[.int .i64 (hi64 (x + y)), .int .u64 (lo64 (x + y))]) ∧ Grew w w' := by
  have C1 := fun w => wof_any y w hy
  have C2 := fun w N hN => sum2 x y w N hN hx (by rw [isWide_iff]; omega) hs
  clear hx hy hs
  generalize hi64 x = a1 at *
  generalize lo64 x = a2 at *
  generalize hi64 y = b1 at *
  generalize lo64 y = b2 at *
  generalize hi64 (x + y) = c1 at *
  generalize lo64 (x + y) = c2 at *
  go_enter Try.func55, Try.ntmps55
  go_wp2
  have HO : Hid (Own2 ((w.alloc (.cells #[.int .i64 a1, .int .u64 a2] 81)).alloc (.cells #[.int .i64 0, .int .u64 0] 81)) w.heap.size (.int .i64 a1) (.int .u64 a2)) := (Own2.new w _ _ _ _ rfl).keep (grew_alloc _ _ _)
  have HP : Hid (Own2 ((w.alloc (.cells #[.int .i64 a1, .int .u64 a2] 81)).alloc (.cells #[.int .i64 0, .int .u64 0] 81)) (w.heap.size + 1) (.int .i64 0) (.int .u64 0)) := Own2.new _ _ _ _ _ (by simp)
  have HG : Hid (Grew w ((w.alloc (.cells #[.int .i64 a1, .int .u64 a2] 81)).alloc (.cells #[.int .i64 0, .int .u64 0] 81))) := grew_trans (grew_alloc _ _ _) (grew_alloc _ _ _)
  generalize hw1 : (w.alloc (.cells #[.int .i64 a1, .int .u64 a2] 81)).alloc (.cells #[.int .i64 0, .int .u64 0] 81) = w1 at HO HP HG ⊢
  clear hw1
  have q1 := HO.out.c0
  have q2 := HO.out.c1
  go_region_with (first
    | (go_at_call 67; ((with_reducible refine (C1 _).mono ?_); rintro e w2 ⟨rfl, hg2⟩; have k0 := HO.out.keep (grew_trans (grew_drew (grew_refl _)) hg2); have q1' := k0.c0; have q2' := k0.c1))
    | (go_at_call 66; ((with_reducible refine (C2 _ _ rfl).mono ?_); rintro e w3 ⟨rfl, hg3⟩; have hgg : Grew w1 w3 := grew_trans (grew_drew (grew_refl _)) (grew_trans hg2 (grew_trans (grew_alloc _ _ _) hg3)); have k1 := HO.out.keep hgg; have q1'' := k1.c0; have q2'' := k1.c1; have q3'' := k1.f0; have q4'' := k1.f1; have q5'' := k1.lt)))
  all_goals
    have K2 := k1.set (.int .i64 c1) (.int .u64 c2)
    have P2 := ((HP.out.keep hgg).other ⟨w.heap.size, 0, none⟩ (.int .i64 c1) (by simp)).other ⟨w.heap.size, 1, none⟩ (.int .u64 c2) (by simp)
    have HG3 : Hid (Grew w ((w3.setCell ⟨w.heap.size, 0, none⟩ (.int .i64 c1)).setCell ⟨w.heap.size, 1, none⟩ (.int .u64 c2))) := grew_set (grew_set (grew_trans HG.out hgg) _ (Nat.le_refl _)) _ (Nat.le_refl _)
    clear q1 q2 q1' q2' q1'' q2'' q3'' q4'' q5'' k0 k1 hg2 hg3 hgg C1 C2
    generalize (w3.setCell ⟨w.heap.size, 0, none⟩ (.int .i64 c1)).setCell ⟨w.heap.size, 1, none⟩ (.int .u64 c2) = w4 at K2 P2 HG3 ⊢
    obtain ⟨r0, r1, r2, r3, r4⟩ := K2
    have s0 := P2.c0
    have s1 := P2.c1
    have s2 := P2.f0
    have s3 := P2.f1
    have P3 := Lib.hid (P2.set (.int .i64 c1) (.int .u64 c2))
    clear P2
    go_wp2
    have t0 := P3.out.c0
    have t1 := P3.out.c1
    exact bodyPost_ret (v := .agg #[.int .i64 c1, .int .u64 c2]) (by simp [results, Try.results55, go_sem, t0, t1]) rfl ⟨rfl, grew_set (grew_set HG3.out _ (by simp)) _ (by simp)⟩
end Go.Proofs.Ytlmnbafklefmcaa.NumK
namespace Go.Proofs.Ytlmnbafklefmcaa.NumK
open Go.RowKit

/-- What stands of a currency. -/
def sumC (l : List Lg) (c : Int) : Int := ((l.filter fun x => decide (x.1.2.2 = c)).map (·.2)).sum
def evenL (l : List Lg) : Bool := decide (sumC l 0 = 0) && decide (sumC l 1 = 0) && decide (sumC l 2 = 0)
/-- Three sums in a block of the call's own. -/
structure Sums3 (w : World) (B : Nat) (s : Nat → Int) : Prop where
  lt : B < w.heap.size
  c0 : ∀ q, q < 3 → w.cell? ⟨B, q * 2, none⟩ = some (.int .i64 (hi64 (s q)))
  c1 : ∀ q, q < 3 → w.cell? ⟨B, q * 2 + 1, none⟩ = some (.int .u64 (lo64 (s q)))
  f0 : ∀ q, q < 3 → w.frozen? ⟨B, q * 2, none⟩ = false
  f1 : ∀ q, q < 3 → w.frozen? ⟨B, q * 2 + 1, none⟩ = false
theorem Sums3.keep {w w' : World} {B : Nat} {s : Nat → Int} (h : Sums3 w B s) (g : Grew w w') : Sums3 w' B s :=
  ⟨Nat.lt_of_lt_of_le h.lt g.size, fun q hq => (grew_cell g (p := ⟨B, q * 2, none⟩) h.lt).trans (h.c0 q hq), fun q hq => (grew_cell g (p := ⟨B, q * 2 + 1, none⟩) h.lt).trans (h.c1 q hq),
    fun q hq => (Below.frozen g (p := ⟨B, q * 2, none⟩) h.lt).trans (h.f0 q hq), fun q hq => (Below.frozen g (p := ⟨B, q * 2 + 1, none⟩) h.lt).trans (h.f1 q hq)⟩
theorem Sums3.new (w : World) (t : TypeId) : Sums3 (w.alloc (.cells #[.int .i64 0, .int .u64 0, .int .i64 0, .int .u64 0, .int .i64 0, .int .u64 0] t)) w.heap.size (fun _ => 0) := by
  refine ⟨by simp, fun q hq => ?_, fun q hq => ?_, fun q hq => by simp, fun q hq => by simp⟩
  · refine (World.cell?_alloc_at _ _ _ _ rfl).trans ?_
    match q, hq with
    | 0, _ => rfl
    | 1, _ => rfl
    | 2, _ => rfl
  · refine (World.cell?_alloc_at _ _ _ _ rfl).trans ?_
    match q, hq with
    | 0, _ => rfl
    | 1, _ => rfl
    | 2, _ => rfl
theorem Sums3.set {w : World} {B : Nat} {s s' : Nat → Int} (h : Sums3 w B s) (i : Nat) (hi : i < 3) (v : Int) (h1 : s' i = v) (h2 : ∀ q, q < 3 → q ≠ i → s' q = s q) :
    Sums3 ((w.setCell ⟨B, i * 2, none⟩ (.int .i64 (hi64 v))).setCell ⟨B, i * 2 + 1, none⟩ (.int .u64 (lo64 v))) B s' := by
  have ne : ∀ a b : Nat, a ≠ b → (⟨B, a, none⟩ : Addr) ≠ ⟨B, b, none⟩ := fun a b h e => h (by simp at e)
  refine ⟨by simp [World.setCell]; exact h.lt, fun q hq => ?_, fun q hq => ?_, fun q hq => by rw [World.frozen?_setCell, World.frozen?_setCell]; exact h.f0 q hq, fun q hq => by rw [World.frozen?_setCell, World.frozen?_setCell]; exact h.f1 q hq⟩
  · rw [World.cell?_setCell_other _ _ _ _ (ne _ _ (by omega))]
    by_cases c : q = i
    · subst c
      rw [World.cell?_setCell_same _ _ _ (h.c0 q hq), h1]
    · rw [World.cell?_setCell_other _ _ _ _ (ne _ _ (by omega)), h.c0 q hq, h2 q hq c]
  · by_cases c : q = i
    · subst c
      rw [World.cell?_setCell_same _ _ _ ((World.cell?_setCell_other _ _ _ _ (ne _ _ (by omega))).trans (h.c1 q hq)), h1]
    · rw [World.cell?_setCell_other _ _ _ _ (ne _ _ (by omega)), World.cell?_setCell_other _ _ _ _ (ne _ _ (by omega)), h.c1 q hq, h2 q hq c]

end Go.Proofs.Ytlmnbafklefmcaa.NumK
namespace Go.Proofs.Ytlmnbafklefmcaa.NumK
open Go.RowKit Go.Maps

theorem keep4_map {w1 w2 : World} {B M : Nat} {a b c d : Value} (g : w1.grownBy w2 (some M)) (hne : B ≠ M) (h : w1.cell? ⟨B, 0, none⟩ = some a ∧ w1.cell? ⟨B, 1, none⟩ = some b ∧ w1.cell? ⟨B, 2, none⟩ = some c ∧ w1.cell? ⟨B, 3, none⟩ = some d) :
    w2.cell? ⟨B, 0, none⟩ = some a ∧ w2.cell? ⟨B, 1, none⟩ = some b ∧ w2.cell? ⟨B, 2, none⟩ = some c ∧ w2.cell? ⟨B, 3, none⟩ = some d := by
  have hn : some B ≠ some M := fun e => hne (by simpa using e)
  exact ⟨g.cell h.1 hn, g.cell h.2.1 hn, g.cell h.2.2.1 hn, g.cell h.2.2.2 hn⟩
theorem grew_map {w w1 w2 : World} {M : Nat} (h : Grew w w1) (g : w1.grownBy w2 (some M)) (hM : w.heap.size ≤ M) : Grew w w2 :=
  Below.grown h g h.size fun k hk => by cases hk; exact hM

set_option maxRecDepth 100000 in
set_option maxHeartbeats 4000000 in
theorem ejoin_any (A : Option Addr) (n c : Nat) (l : List Lg) (w : World) (h : RowE enLg w A n l) (hn : n ≤ 1000000) :
    Calls Try.prog 34 #[.slice A n c] w fun e w' => ∃ v, e = .returned (.tuple #[v, .int .i64 (joinE l)]) ∧ OwnE enLg w' w.heap.size 50 v (joinL l) ∧ Grew w w' := by
  have HI := Lib.hid h
  have HL := Lib.hid h.len
  have CR := fun w (h : RowE enLg w A n l) => legsRight_any A n c l w h (by omega)
  clear h
  by_cases hm : mayL l = true
  · rw [hm] at CR
    have HM := Lib.hid hm
    have HYES := Lib.hid (join_yes hm)
    have HNO := Lib.hid (join_no hm)
    have hmm := @run_makeMap Try.prog
    clear hm
    have HJL : Hid (joinL l = if joinE l = 0 then joinF (sumA l) 108 else []) := rfl
    generalize joinE l = JE at *
    go_enter Try.func34, Try.ntmps34
    go_wp2_with (go_at_call 54; ((with_reducible refine (CR _ HI.out).mono ?_); rintro e w1 ⟨rfl, hg⟩; have HG1 := Lib.hid hg; clear hg CR))
    have HM0 := Lib.hid (MapS.new w1)
    have HG2 : Hid (Grew w (w1.alloc (.map #[] 0))) := grew_trans HG1.out ((Below.refl _ _).alloc (Nat.le_refl _) _)
    have HWM : Hid (w.heap.size ≤ w1.heap.size) := HG1.out.size
    clear hmm HG1
    generalize w1.heap.size = M at *
    generalize w1.alloc (.map #[] 0) = w2 at *
    go_loopw [18] (fun v18 wr => ∃ j : Nat, v18 = .int .i64 j ∧ j ≤ n ∧ Hid (MapS wr M j (sumA (l.take j))) ∧ Hid (Grew w wr)) (fun v18 _ => n - (intOf v18).toNat)
    case atStart => exact ⟨0, rfl, by omega, HM0.out, HG2.out⟩
    case round =>
      clear HM0 HG2
      obtain ⟨j, rfl, hj, HS, HG⟩ := hrel
      by_cases hlt : j < n
      · have hjl : j < l.length := by rw [HL.out]; exact hlt
        obtain ⟨b, o, rfl, hb, a1, a2, a3, a4⟩ := (HI.out.keep HG.out).lg hlt
        have hok := okL_parts (may_at' l j hjl HM.out)
        have hsn := fun a => sumA_snoc l j hjl a
        have hwa := fun a => sumA_wide (l.take j) a (may_take' l j HM.out) (by rw [List.length_take]; omega)
        have hwb := fun a => sumA_wide (l.take (j + 1)) a (may_take' l (j + 1) HM.out) (by rw [List.length_take]; omega)
        generalize l.getD j lg0 = x at *
        have hia : inAc x.1 := right_inAc hok.1
        have hx : sumA (l.take (j + 1)) x.1 = sumA (l.take j) x.1 + x.2 := by rw [hsn]; simp
        have CP := fun w => plus_any (sumA (l.take j) x.1) x.2 w (hwa x.1) (by omega) (by rw [← hx]; exact hwb x.1)
        have HPUT : Hid (∀ w', MapS w' M j (sumA (l.take j)) → ∃ w3, (Instr.mapUpdate 88 (.map (some M)) (acV x.1.1 x.1.2.1 x.1.2.2) (.agg #[.int .i64 (hi64 (sumA (l.take j) x.1 + x.2)), .int .u64 (lo64 (sumA (l.take j) x.1 + x.2))])).run Try.prog w' = .ok () w3 ∧ MapS w3 M (j + 1) (sumA (l.take (j + 1))) ∧ w'.grownBy w3 (some M)) :=
          fun w' h => h.put x.1 hia _ (by unfold maxLen; omega) hx (fun a' hne => by rw [hsn, if_neg (Ne.symm hne)]; simp)
        have hlk := fun w' (h : MapS w' M j (sumA (l.take j))) => h.look x.1 hia
        have HSD : Hid (∀ w', Grew (wr.alloc (.cells #[.int .i64 x.1.1, .int .i64 x.1.2.1, .int .i64 x.1.2.2, .int .i64 x.2] 50)).drew w' → MapS w' M j (sumA (l.take j)) ∧ Grew w w') :=
          fun w' g => ⟨(HS.out.keep (grew_drew (grew_alloc _ _ _))).keep g, grew_trans HG.out (grew_trans (grew_drew (grew_alloc _ _ _)) g)⟩
        have HNE : Hid (wr.heap.size ≠ M) := by have := HS.out.lt; show _ ≠ _; omega
        have i1 : (j : Int) < (n : Int) := by omega
        have i0 : (0 : Int) ≤ (j : Int) := by omega
        unfold acV at HPUT hlk
        clear hsn hwa hwb hok hia hx hb
        generalize hi64 (sumA (l.take j) x.1) = s1 at *
        generalize lo64 (sumA (l.take j) x.1) = s2 at *
        generalize hi64 (sumA (l.take j) x.1 + x.2) = r1 at *
        generalize lo64 (sumA (l.take j) x.1 + x.2) = r2 at *
        generalize x.1.1 = q1 at *
        generalize x.1.2.1 = q2 at *
        generalize x.1.2.2 = q3 at *
        generalize x.2 = q4 at *
        have h0 : ((wr.alloc (.cells #[.int .i64 q1, .int .i64 q2, .int .i64 q3, .int .i64 q4] 50)).cell? ⟨wr.heap.size, 0, none⟩ = some (.int .i64 q1) ∧ (wr.alloc (.cells #[.int .i64 q1, .int .i64 q2, .int .i64 q3, .int .i64 q4] 50)).cell? ⟨wr.heap.size, 1, none⟩ = some (.int .i64 q2) ∧ (wr.alloc (.cells #[.int .i64 q1, .int .i64 q2, .int .i64 q3, .int .i64 q4] 50)).cell? ⟨wr.heap.size, 2, none⟩ = some (.int .i64 q3) ∧ (wr.alloc (.cells #[.int .i64 q1, .int .i64 q2, .int .i64 q3, .int .i64 q4] 50)).cell? ⟨wr.heap.size, 3, none⟩ = some (.int .i64 q4))
            ∧ wr.heap.size < (wr.alloc (.cells #[.int .i64 q1, .int .i64 q2, .int .i64 q3, .int .i64 q4] 50)).heap.size := ⟨⟨by simp, by simp, by simp, by simp⟩, by simp⟩
        go_wp2
        generalize wr.alloc (.cells #[.int .i64 q1, .int .i64 q2, .int .i64 q3, .int .i64 q4] 50) = w0 at h0 HSD ⊢
        obtain ⟨hc0, hw0⟩ := h0
        have HW0 := Lib.hid hw0
        have hl0 := hlk _ (HSD.out _ (grew_refl _)).1
        clear hw0 HS HG a1 a2 a3 a4 hlk
        go_region_held3 (fun w' => w'.cell? ⟨wr.heap.size, 0, none⟩ = some (.int .i64 q1) ∧ w'.cell? ⟨wr.heap.size, 1, none⟩ = some (.int .i64 q2) ∧ w'.cell? ⟨wr.heap.size, 2, none⟩ = some (.int .i64 q3) ∧ w'.cell? ⟨wr.heap.size, 3, none⟩ = some (.int .i64 q4))
          (first
            | (with_reducible exact keep4 (grew_drew (grew_refl _)) HW0.out hc0)
            | (with_reducible exact keep4 (grew_trans (grew_drew (grew_refl _)) hg2) HW0.out hc0)
            | (with_reducible exact keep4_map hg3 HNE.out (keep4 (grew_trans (grew_drew (grew_refl _)) hg2) HW0.out hc0))
            | (trace_state; fail))
          ((go_at_call 55; refine (CP _).mono ?_; rintro e w2 ⟨rfl, hg2⟩; have HP2 := Lib.hid (HSD.out w2 hg2); obtain ⟨w3, hput, hm3, hg3⟩ := HPUT.out w2 HP2.out.1; have HM3 := Lib.hid hm3; clear hm3))
        have HG3 := Lib.hid (grew_map HP2.out.2 hg3 HWM.out)
        clear HSD HPUT CP hl0 hput hg3 HP2 hg2 hc0 HW0
        go_wp2
        go_roundw
        case rel => exact ⟨j + 1, by go_num, by omega, HM3.out, HG3.out⟩
        case measure => simp only [intOf]; omega
      · obtain rfl : j = n := by omega
        rw [List.take_of_length_le (by rw [HL.out]; exact Nat.le_refl _)] at HS
        have CA : ∀ (w : World) (N : Nat), w.heap.size = N → Calls Try.prog 56 #[.slice (some ⟨N, 0, none⟩) 6 6] (w.alloc (.cells #[.int .i64 1, .int .i64 2, .int .i64 3, .int .i64 4, .int .i64 5, .int .i64 6] 3)) fun e w' => ∃ A c, e = .returned (.slice A 108 c) ∧ RowE enAc w' A 108 allK ∧ Grew w w' := by
          intro w N hN
          refine (aall_any (some ⟨N, 0, none⟩) 6 6 [1, 2, 3, 4, 5, 6] _ (ints6' w 1 2 3 4 5 6 _ N hN) (by omega)).mono ?_
          rintro e w' ⟨v, rfl, ho, hg⟩
          obtain ⟨A, c, rfl, hr, _⟩ := ho.form
          have hl : (allL [1, 2, 3, 4, 5, 6]).length = 108 := allK_len
          rw [hl] at hr ⊢
          exact ⟨A, c, rfl, hr, own_back hg⟩
        go_wp2_with (go_at_call 56; ((with_reducible refine (CA _ _ rfl).mono ?_); rintro e w4 ⟨A2, c2, rfl, hr, hg⟩; have HR := Lib.hid hr; have HS4 := Lib.hid (HS.out.keep hg); have HG4 := Lib.hid (grew_trans HG.out hg); clear hr hg CA))
        clear HS HG
        go_loopw [7, 36] (fun v7 v36 wr => ∃ k : Nat, v36 = .int .i64 k ∧ k ≤ 108 ∧ Hid (OwnE enLg wr w4.heap.size 50 v7 (joinF (sumA l) k)) ∧ Hid (∀ i, i < k → isMoney (sumA l (allK.getD i ac0)) = true) ∧ Hid (Grew w4 wr)) (fun _ v36 _ => 108 - (intOf v36).toNat)
        case atStart => exact ⟨0, rfl, by omega, OwnE.nil enLg _ _ _, (by intro i hi; omega), grew_refl _⟩
        case round =>
          obtain ⟨k, rfl, hk, HO, HK, HG⟩ := hrel
          by_cases hlt : k < 108
          · obtain ⟨b, o, rfl, hb, a1, a2, a3⟩ := (HR.out.keep HG.out).ac hlt
            have hra : rightA (allK.getD k ac0).1 (allK.getD k ac0).2.1 (allK.getD k ac0).2.2 = true := allK_right _ (allK_getD k hlt)
            have hia : inAc (allK.getD k ac0) := right_inAc hra
            have CI := fun w => wint_any (sumA l (allK.getD k ac0)) w
            have hJ := joinF_succ (sumA l) k hlt
            have hJN := joinF_len (sumA l) k
            have hno := HNO.out k hlt
            have hkk : isMoney (sumA l (allK.getD k ac0)) = true → ∀ i, i < k + 1 → isMoney (sumA l (allK.getD i ac0)) = true := fun h i hi => by
              rcases Nat.lt_or_ge i k with h1 | h1
              · exact HK.out i h1
              · obtain rfl : i = k := by omega
                exact h
            have hlook := ((HS4.out.keep HG.out).keep (grew_alloc wr #[.int .i64 (allK.getD k ac0).1, .int .i64 (allK.getD k ac0).2.1, .int .i64 (allK.getD k ac0).2.2] 48)).look (allK.getD k ac0) hia
            have i1 : (k : Int) < 108 := by omega
            have i0 : (0 : Int) ≤ (k : Int) := by omega
            change wr.cell? ⟨b, o + k * 3, none⟩ = some (.int .i64 (allK.getD k ac0).1) at a1
            change wr.cell? ⟨b, o + k * 3 + 1, none⟩ = some (.int .i64 (allK.getD k ac0).2.1) at a2
            change wr.cell? ⟨b, o + k * 3 + 2, none⟩ = some (.int .i64 (allK.getD k ac0).2.2) at a3
            clear hra hia hb HK
            unfold acV at hlook
            generalize allK.getD k ac0 = y at *
            generalize hs : sumA l y = s at *
            have HJ := Lib.hid hJ
            have HJN := Lib.hid hJN
            have HNO1 := Lib.hid hno
            have HKK := Lib.hid hkk
            have HSS := Lib.hid hs
            clear hJ hJN hno hkk hs HNO
            rcases y with ⟨y1, y2, y3⟩
            dsimp only at a1 a2 a3 hlook
            by_cases hm : isMoney s = true
            · rw [capV_in hm, capE_in hm] at CI
              have HKK2 := Lib.hid (HKK.out hm)
              clear HNO1 HKK
              have hsb := (isMoney_iff s).1 hm
              clear hm
              by_cases h0 : s = 0
              · have HJ0 : Hid (joinF (sumA l) (k + 1) = joinF (sumA l) k) := by show _ = _; rw [HJ.out, if_pos h0, List.append_nil]
                rw [← HJ0.out] at HO
                subst h0
                clear HJ HJ0
                go_wp2_with (go_at_call 57; ((with_reducible refine (CI _).mono ?_); rintro e w5 ⟨rfl, hg⟩; have HG5 := Lib.hid (own_back hg); clear hg))
                go_roundw
                case rel => exact ⟨k + 1, by go_num, by omega, HO.out.keep HG5.out, HKK2.out, grew_trans HG.out HG5.out⟩
                case measure => simp only [intOf]; omega
              · have HJ1 : Hid (joinF (sumA l) (k + 1) = joinF (sumA l) k ++ [((y1, y2, y3), s)]) := by show _ = _; rw [HJ.out, if_neg h0]
                have d0 : (s != 0) = true := by simpa using h0
                obtain ⟨b1, b2⟩ := hsb
                have HLW : Hid (w4.heap.size ≤ wr.heap.size) := HG.out.size
                clear HJ h0
                go_wp2_with (first
                  | (go_at_call 57; ((with_reducible refine (CI _).mono ?_); rintro e w5 ⟨rfl, hg⟩; have d1 := own_cell hg 0; have d2 := own_cell hg 1; have d3 := own_cell hg 2; have HG5 := Lib.hid (own_back hg); clear hg))
                  | (at_builtin; refine (wpList_append_E rfl _ _ 33 50 (legV 0 0 0 0) 32 rfl Try.underlying33 info_lg rfl w4.heap.size _ _ rfl ((HO.out.keep HG5.out).keep (grew_alloc _ _ _)) _ 1 1 [((y1, y2, y3), s)] rfl (by intro h; cases h) (rowL_one _ _ _ _ _ _ _ rfl) (by have := HJN.out; unfold maxLen; omega) (by have := HJN.out; omega) (Nat.le_trans (Nat.le_trans HLW.out HG5.out.size) (grew_alloc w5 _ _).size) ?_); intro v6 w6 hv hb6; rw [← HJ1.out] at hv; have HV6 := Lib.hid hv; have HG6 : Hid (Grew w4 w6) := Below.trans (grew_trans HG.out (grew_trans HG5.out (grew_alloc _ _ _))) hb6; clear hv hb6))
                go_roundw
                case rel => exact ⟨k + 1, by go_num, by omega, HV6.out, HKK2.out, HG6.out⟩
                case measure => simp only [intOf]; omega
            · rw [Bool.not_eq_true] at hm
              rw [capV_out hm, capE_out hm] at CI
              have HE1 := Lib.hid (HNO1.out hm)
              have HJ0 : Hid (joinL l = []) := by show _ = _; rw [HJL.out, HE1.out]; rfl
              clear hm HNO1 HKK HJ
              go_wp2_with (go_at_call 57; ((with_reducible refine (CI _).mono ?_); rintro e w5 ⟨rfl, hg⟩; have HG5 := Lib.hid (own_back hg); clear hg))
              go_ret2
              exact ⟨_, by rw [HE1.out]; rfl, by rw [HJ0.out]; exact OwnE.nil enLg _ _ _, grew_trans HG4.out (grew_trans HG.out HG5.out)⟩
          · obtain rfl : k = 108 := by omega
            have HE0 := Lib.hid (HYES.out HK.out)
            have HJ0 : Hid (joinL l = joinF (sumA l) 108) := by show _ = _; rw [HJL.out, HE0.out]; rfl
            go_wp2
            go_ret2
            exact ⟨_, by rw [HE0.out]; rfl, by rw [HJ0.out]; exact HO.out.mono HG4.out.size, grew_trans HG4.out HG.out⟩
  · rw [Bool.not_eq_true] at hm
    rw [hm] at CR
    have HE : Hid (joinE l = 3) := by show _ = _; unfold joinE; rw [hm]; rfl
    have HJ : Hid (joinL l = []) := by show _ = _; unfold joinL; rw [HE.out]; rfl
    rw [HE.out, HJ.out]
    clear hm HE HJ
    go_enter Try.func34, Try.ntmps34
    go_wp2_with (go_at_call 54; ((with_reducible refine (CR _ HI.out).mono ?_); rintro e w1 ⟨rfl, hg⟩; have HG1 := Lib.hid hg; clear hg))
    go_ret2
    exact ⟨_, rfl, OwnE.nil enLg _ _ _, HG1.out⟩
end Go.Proofs.Ytlmnbafklefmcaa.NumK
