/- The contracts of entry, in the shape that the laws' walks take. -/
import Derived.Test.YtmbhkeppikaeaaaEnMath
import Derived.Test.YtmbhkeppikaeaaaRefJoinB
namespace Go.Proofs.Ytmbhkeppikaeaaa.NumK
open Go.RowKit

theorem grew_below {w w2 w3 : World} {base : Nat} (h : Grew w w2) (k : Below base w2 w3) (hb : w.heap.size ≤ base) : Grew w w3 := Below.trans h (Below.mono k hb)

/-- A slice of legs that a call owns. -/
structure Mine (w : World) (base : Nat) (A : Option Addr) (n c : Nat) (l : List Lg) : Prop where
  row : RowE enLg w A n l
  nil : A = none → c = 0
  own : OwnE enLg w base 40 (.slice A n c) l
theorem Mine.of {w : World} {base : Nat} {v : Value} {l : List Lg} (h : OwnE enLg w base 40 v l) : ∃ A c, v = .slice A l.length c ∧ Mine w base A l.length c l := by
  obtain ⟨A, c, rfl, hr, hn, _⟩ := h.form
  exact ⟨A, c, rfl, hr, hn, h⟩
theorem Mine.keep {w w' : World} {base : Nat} {A : Option Addr} {n c : Nat} {l : List Lg} (h : Mine w base A n c l) (g : Grew w w') : Mine w' base A n c l := ⟨h.row.keep g, h.nil, h.own.keep g⟩
theorem Mine.slab {w : World} {base : Nat} {A : Option Addr} {n c : Nat} {l : List Lg} (h : Mine w base A n c l) : n = 0 ∨ ∃ g, A = some ⟨g, 0, none⟩ ∧ base ≤ g ∧ Slab w g (n * 4) := by
  obtain ⟨A', c', e, h2⟩ := h.own.slab
  have hl := h.row.len
  cases e
  rcases h2 with h2 | h2
  · left; omega
  · right; rw [hl] at h2; exact h2

theorem twin_form (A : Option Addr) (n c : Nat) (l : List Lg) (w : World) (h : RowE enLg w A n l) (hA : A = none → c = 0) (hn : n ≤ 1000000) :
    Calls Try.prog 9 #[.slice A n c] w fun e w' => ∃ A' c', e = .returned (.slice A' n c') ∧ Mine w' w.heap.size A' n c' l ∧ Grew w w' :=
  (twinLegs_any A n c l w h hA hn).mono fun e w' ⟨v, he, ho, hg⟩ => by
    obtain ⟨A', c', rfl, hm⟩ := Mine.of ho
    rw [h.len] at hm he
    exact ⟨A', c', he, hm, hg⟩
theorem join_form (A : Option Addr) (n c : Nat) (l : List Lg) (w : World) (h : RowE enLg w A n l) (hn : n ≤ 1000000) :
    Calls Try.prog 12 #[.slice A n c] w fun e w' => ∃ A' c', e = .returned (.tuple #[.slice A' (joinL l).length c', .int .i64 (joinE l)]) ∧ Mine w' w.heap.size A' (joinL l).length c' (joinL l) ∧ Grew w w' :=
  (join_any A n c l w h hn).mono fun e w' ⟨v, he, ho, hg⟩ => by
    obtain ⟨A', c', rfl, hm⟩ := Mine.of ho
    exact ⟨A', c', he, hm, hg⟩
theorem refJoin_form (A : Option Addr) (n c : Nat) (l : List Lg) (w : World) (h : RowE enLg w A n l) (hn : n ≤ 90000) :
    Calls Try.prog 13 #[.slice A n c] w fun e w' => ∃ A' c', e = .returned (.tuple #[.slice A' (joinL l).length c', .int .i64 (joinE l)]) ∧ RowE enLg w' A' (joinL l).length (joinL l) ∧ Grew w w' :=
  (refJoin_any A n c l w h hn).mono fun e w' ⟨v, he, ho, hg⟩ => by
    obtain ⟨A', c', rfl, hm⟩ := Mine.of ho
    exact ⟨A', c', he, hm.row, hg⟩
theorem refTurn_form (A : Option Addr) (n c : Nat) (l : List Lg) (w : World) (h : RowE enLg w A n l) (hn : n ≤ 1000000) :
    Calls Try.prog 18 #[.slice A n c] w fun e w' => ∃ A' c', e = .returned (.slice A' n c') ∧ RowE enLg w' A' n (turnL l) ∧ Grew w w' :=
  (refTurn_any A n c l w h hn).mono fun e w' ⟨v, he, ho, hg⟩ => by
    obtain ⟨A', c', rfl, hm⟩ := Mine.of ho
    have hr := hm.row
    rw [turnL_len, h.len] at hr he
    exact ⟨A', c', he, hr, hg⟩
/-- The same legs. -/
theorem legs_yes (A B : Option Addr) (n m c d : Nat) (l : List Lg) (w : World) (h : RowE enLg w A n l) (h2 : RowE enLg w B m l) (hn : n ≤ 1000000) :
    Calls Try.prog 14 #[.slice A n c, .slice B m d] w fun e w' => e = .returned (.bool true) ∧ Grew w w' := by
  have C := keepLegs_any A B n m c d l l w h h2 hn
  rwa [decide_eq_true rfl] at C
end Go.Proofs.Ytmbhkeppikaeaaa.NumK
