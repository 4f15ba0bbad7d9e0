/- A book is spoiled, and nothing else. -/
import Derived.Test.YtkbmiajgmnfpfaaRW2
namespace Go.Proofs.Ytkbmiajgmnfpfaa.NumK
open Go.RowKit
set_option linter.unusedVariables false

/-- Of what was there nothing but two rows has turned. -/
def SameBut (A1 A2 : Option Addr) (w w' : World) : Prop := ∀ k, k < w.heap.size → A1.map (·.block) ≠ some k → A2.map (·.block) ≠ some k → w'.heap[k]? = w.heap[k]?
theorem OwnC.same {w w' : World} {b : Nat} {cs : List Value} (h : OwnC w b cs) (hs : w'.heap[b]? = w.heap[b]?) (hz : w.heap.size ≤ w'.heap.size) : OwnC w' b cs :=
  ⟨Nat.lt_of_lt_of_le h.lt hz, fun i hi => (World.cell?_of_block (w := w) (a := ⟨b, i, none⟩) hs).trans (h.c i hi), fun i hi => (World.frozen?_of_block (w := w) (a := ⟨b, i, none⟩) hs).trans (h.f i hi)⟩
theorem OwnE.sameB {α : Type} {E : En α} {w w' : World} {b : Nat} {t : TypeId} {A : Option Addr} {n c : Nat} {l : List α} (h : OwnE E w b t (.slice A n c) l) (g : ∀ x, A = some x → w'.heap[x.block]? = w.heap[x.block]?) : OwnE E w' b t (.slice A n c) l := by
  obtain ⟨hl, h⟩ := h
  refine ⟨hl, ?_⟩
  rcases h with h | ⟨k, cap, cur, hv, h1, hh, r⟩
  · exact Or.inl h
  · refine Or.inr ⟨k, cap, cur, hv, h1, ?_, r⟩
    cases hv
    exact (g _ rfl).trans hh

set_option maxRecDepth 100000 in
set_option maxHeartbeats 4000000 in
theorem spoilBook_same (nx : Int) (A1 A2 : Option Addr) (n1 n2 c1 c2 base : Nat) (w : World) (h1 : SpB A1 n1 7 base w.heap.size w) (h2 : SpB A2 n2 4 base w.heap.size w) (hb0 : base ≤ w.heap.size) (hn : n1 ≤ 1000000 ∧ n2 ≤ 1000000) :
    Calls Try.prog 21 #[vBk nx A1 A2 n1 n2 c1 c2] w fun e w' => e = .returned (.tuple #[]) ∧ Below base w w' ∧ SameBut A1 A2 w w' := by
  have H1 := Lib.hid h1
  have H2 := Lib.hid h2
  have HB0 := Lib.hid hb0
  clear h1 h2 hb0
  dsimp only [vBk]
  go_enter Try.func21, Try.ntmps21
  go_wp2
  go_loopw [2] (fun vi wr => ∃ k : Nat, vi = .int .i64 k ∧ k ≤ n1 ∧ Hid (SpB A1 n1 7 base w.heap.size wr) ∧ Hid (SpB A2 n2 4 base w.heap.size wr) ∧ Hid (Below base w wr ∧ ∀ k, k < w.heap.size → A1.map (·.block) ≠ some k → wr.heap[k]? = w.heap[k]?) ∧ Hid (OwnC wr w.heap.size [.int .i64 nx, .slice A1 n1 c1, .slice A2 n2 c2])) (fun vi _ => n1 - (intOf vi).toNat)
  case atStart => exact ⟨0, rfl, Nat.zero_le _, H1.out.keep (grew_alloc _ _ _), H2.out.keep (grew_alloc _ _ _), ⟨Below.mono (grew_alloc _ _ _) HB0.out, fun k hk _ => (grew_alloc w #[.int .i64 nx, .slice A1 n1 c1, .slice A2 n2 c2] 25).block k hk⟩, OwnC.new w [.int .i64 nx, .slice A1 n1 c1, .slice A2 n2 c2] _ _ rfl⟩
  case round =>
    obtain ⟨k, rfl, hk, HS1, HS2, HB, HC⟩ := hrel
    have x1 : wr.cell? ⟨w.heap.size, 1, none⟩ = some (.slice A1 n1 c1) := HC.out.at 1 _ rfl
    by_cases hlt : k < n1
    · have HSS := Lib.hid HS1.out
      obtain ⟨g, rfl, hb, hgN, hs⟩ : ∃ g, A1 = some ⟨g, 0, none⟩ ∧ base ≤ g ∧ g < w.heap.size ∧ Slab wr g (n1 * 7) := by
        rcases HSS.out with h | h
        · omega
        · exact h
      obtain ⟨⟨x, a1⟩, a2⟩ := hs.2 (k * 7) (by omega)
      have a3 : (k : Int) < (n1 : Int) := by omega
      have HB2 : Hid (Below base w (wr.setCell ⟨g, k * 7, none⟩ (.int .i64 (-77))) ∧ ∀ i, i < w.heap.size → (some (⟨g, 0, none⟩ : Addr)).map (·.block) ≠ some i → (wr.setCell ⟨g, k * 7, none⟩ (.int .i64 (-77))).heap[i]? = w.heap[i]?) :=
        ⟨Below.setCell HB.out.1 hb _, fun i hi1 hi => (Below.heap_setCell _ _ _ _ (by intro e; apply hi; rw [e]; rfl)).trans (HB.out.2 i hi1 hi)⟩
      have HT1 := Lib.hid (HS1.out.set g (k * 7) (.int .i64 (-77)))
      have HT2 := Lib.hid (HS2.out.set g (k * 7) (.int .i64 (-77)))
      have HC2 := Lib.hid (HC.out.other ⟨g, k * 7, none⟩ (.int .i64 (-77)) (by show g ≠ _; omega))
      clear HSS hs
      go_wp2
      go_roundw
      case rel => exact ⟨k + 1, by go_num, by omega, HT1.out, HT2.out, HB2, HC2.out⟩
      case measure => simp only [intOf]; omega
    · have hge : ¬ (k : Int) < (n1 : Int) := by omega
      have x2 : wr.cell? ⟨w.heap.size, 2, none⟩ = some (.slice A2 n2 c2) := HC.out.at 2 _ rfl
      have HSA : Hid (n2 = 0 ∨ ∃ g, A2 = some ⟨g, 0, none⟩ ∧ base ≤ g ∧ Slab wr g (n2 * 4)) := by
        rcases HS2.out with h | ⟨g, e, h1, h2, h3⟩
        · exact Or.inl h
        · exact Or.inr ⟨g, e, h1, h3⟩
      have CP := spoilPoss_any A2 n2 c2 base wr HSA.out hn.2
      clear hlt hk
      go_wp2_with (go_at_call 47; ((with_reducible refine CP.mono ?_); rintro e w5 ⟨rfl, hb, hs⟩; have HB5 : Hid (Below base w w5 ∧ SameBut A1 A2 w w5) := ⟨Below.trans HB.out.1 hb, fun k hk e1 e2 => (hs k e2).trans (HB.out.2 k hk e1)⟩; clear hb hs CP))
      go_end0
      exact ⟨rfl, HB5.out⟩
end Go.Proofs.Ytkbmiajgmnfpfaa.NumK
