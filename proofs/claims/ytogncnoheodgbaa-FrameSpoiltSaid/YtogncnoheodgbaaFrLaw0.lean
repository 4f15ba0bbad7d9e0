/- What the laws of stage 5 ask of Seal and First. -/
import Derived.Test.YtogncnoheodgbaaFrameH
import Derived.Test.YtogncnoheodgbaaWakes05
namespace Go.Proofs.Ytogncnoheodgbaa.NumK
open Go.RowKit

/-- Bytes in memory of the call's own, their slice's parts. -/
def OwnB (base : Nat) (w : World) (A : Option Addr) (n c : Nat) (l : List UInt8) : Prop :=
  w.ownsRow base 5 1 (.slice A n c) n (l.map byv) ∧ Bys w A n l ∧ (A = none → c = 0) ∧ n ≤ c ∧ c ≤ 9223372036854775807
theorem ownB_of {base n : Nat} {w : World} {v : Value} {l : List UInt8} (h : w.ownsRow base 5 1 v n (l.map byv)) : ∃ A c, v = .slice A n c ∧ OwnB base w A n c l := by
  obtain ⟨A, c, rfl, h1, h2, h3, h4, _⟩ := bys_own2 h
  exact ⟨A, c, rfl, h, h1, h2, h3, h4⟩

theorem seal_fits (gen no : Int) (A : Option Addr) (n c N : Nat) (l : List UInt8) (w : World) (hN : N = n + 21) (h : Bys w A n l) (hA : A = none → c = 0) (hc : n ≤ c) (g1 : 0 ≤ gen) (g2 : gen ≤ 1099511627776) (n1 : 0 ≤ no) (n2 : no ≤ 2147483647) (hn : n ≤ 65536) :
    Calls Try.prog 14 #[.int .i64 gen, .int .i64 no, .slice A n c] w fun e w' => Grew w w' ∧ ∃ A2 c2, e = .returned (.tuple #[.slice A2 N c2, .int .i64 0]) ∧ OwnB w.heap.size w' A2 N c2 (frameB gen.toNat no.toNat l) := by
  have hm : mayI gen no l.length = 0 := by unfold mayI; rw [if_neg (by omega), if_neg (by have := h.1; omega)]
  refine (seal_any gen no A n c l w h hA hc).mono fun e w' ⟨hg, hs⟩ => ⟨hg, ?_⟩
  rcases hs with ⟨hne, _⟩ | ⟨_, v, he, ho⟩
  · exact absurd hm hne
  · rw [h.1, ← hN] at ho
    obtain ⟨A2, c2, rfl, ho2⟩ := ownB_of ho
    exact ⟨A2, c2, he, ho2⟩
theorem seal_none (gen no : Int) (A : Option Addr) (n c : Nat) (l : List UInt8) (w : World) (h : Bys w A n l) (hA : A = none → c = 0) (hc : n ≤ c) (hm : mayI gen no n ≠ 0) :
    Calls Try.prog 14 #[.int .i64 gen, .int .i64 no, .slice A n c] w fun e w' => Grew w w' ∧ e = .returned (.tuple #[.slice none 0 0, .int .i64 (mayI gen no n)]) := by
  refine (seal_any gen no A n c l w h hA hc).mono fun e w' ⟨hg, hs⟩ => ⟨hg, ?_⟩
  rw [h.1] at hs
  rcases hs with ⟨_, he⟩ | ⟨h0, _⟩
  · exact he
  · exact absurd h0 hm
theorem first_back (gen no : Int) (A : Option Addr) (N c n M : Nat) (l more : List UInt8) (w : World) (hM : M = n + 21) (hl : l.length = n) (h : Bys w A N (frameB gen.toNat no.toNat l ++ more)) (hA : A = none → c = 0) (hc : N ≤ c) (hc2 : c ≤ 9223372036854775807) (g1 : 0 ≤ gen) (g2 : gen ≤ 1099511627776) (n1 : 0 ≤ no) (n2 : no ≤ 2147483647) (hn : n ≤ 65536) :
    Calls Try.prog 18 #[.slice A N c] w fun e w' => Grew w w' ∧ ∃ A2 c2, e = .returned (.tuple #[.int .i64 gen, .int .i64 no, .slice A2 n c2, .int .i64 (M : Int), .int .i64 0]) ∧ OwnB w.heap.size w' A2 n c2 l := by
  obtain ⟨f1, f2⟩ := frs_frame gen.toNat no.toNat l more (by omega) (by omega) (by omega)
  refine (first_any A N c _ w h hA hc hc2).mono fun e w' ⟨hg, hs⟩ => ⟨hg, ?_⟩
  rcases hs with ⟨h0, _⟩ | ⟨g, m, s, v, h0, he, ho⟩
  · rw [f1] at h0; cases h0
  · rw [f1] at h0
    simp only [Option.some.injEq, Prod.mk.injEq] at h0
    obtain ⟨rfl, rfl, rfl⟩ := h0
    rw [f2, hl] at ho
    obtain ⟨A2, c2, rfl, ho2⟩ := ownB_of ho
    refine ⟨A2, c2, ?_, ho2⟩
    rw [he, Int.toNat_of_nonneg g1, Int.toNat_of_nonneg n1, hl, hM, Nat.add_comm 21 n]
theorem first_none (A : Option Addr) (N c : Nat) (l : List UInt8) (w : World) (h : Bys w A N l) (hA : A = none → c = 0) (hc : N ≤ c) (hc2 : c ≤ 9223372036854775807) (hf : frs l = none) :
    Calls Try.prog 18 #[.slice A N c] w fun e w' => Grew w w' ∧ e = .returned (.tuple #[.int .i64 0, .int .i64 0, .slice none 0 0, .int .i64 0, .int .i64 4]) := by
  refine (first_any A N c _ w h hA hc hc2).mono fun e w' ⟨hg, hs⟩ => ⟨hg, ?_⟩
  rcases hs with ⟨_, he⟩ | ⟨g, m, s, v, h0, _⟩
  · exact he
  · rw [hf] at h0; cases h0
end Go.Proofs.Ytogncnoheodgbaa.NumK
