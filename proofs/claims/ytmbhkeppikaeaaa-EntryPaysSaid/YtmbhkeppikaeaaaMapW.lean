/- A map of the call's own from accounts to sums of 128 bits. -/
import Derived.Test.YtmbhkeppikaeaaaAcA
import Derived.Test.YtmbhkeppikaeaaaWides
import Derived.Maps.Own
import Derived.Maps.Views
import Derived.DeepKeys4
namespace Go.Proofs.Ytmbhkeppikaeaaa.NumK
open Go.RowKit Go.Maps

def inInt (n : Int) : Prop := -9223372036854775808 ≤ n ∧ n ≤ 9223372036854775807
def inAc (a : Ac) : Prop := inInt a.1 ∧ inInt a.2.1 ∧ inInt a.2.2
theorem right_inAc {k m c : Int} (h : rightA k m c = true) : inAc (k, m, c) := by
  have := right_in h
  unfold inAc inInt
  dsimp only
  omega

def readW (v : Value) : Option (DataW Unit × List MemPlace) :=
  match v with
  | .agg cs => match cs.toList with
    | [.int .i64 a, .int .u64 b] => some (.agg [.lit (.int .i64 a), .lit (.int .u64 b)], [])
    | _ => none
  | _ => none
def wD (s : Int) : DataW Unit := .agg [.lit (.int .i64 (hi64 s)), .lit (.int .u64 (lo64 s))]
theorem readW_mk (s : Int) : readW (.agg #[.int .i64 (hi64 s), .int .u64 (lo64 s)]) = some (wD s, []) := rfl
theorem readW_inv {v : Value} {s : Int} {ps : List MemPlace} (h : readW v = some (wD s, ps)) : v = .agg #[.int .i64 (hi64 s), .int .u64 (lo64 s)] := by
  unfold readW at h
  split at h
  · split at h
    · rename_i cs a b e
      simp only [wD, Option.some.injEq, Prod.mk.injEq, DataW.agg.injEq, List.cons.injEq, DataW.lit.injEq, Lit.int.injEq] at h
      obtain ⟨⟨⟨_, rfl⟩, ⟨_, rfl⟩, _⟩, _⟩ := h
      congr 1
      exact Array.toList_inj.1 (by rw [e])
    · cases h
  · cases h

theorem laidAc : laidOutB Try.prog = true := by kernel_rfl
theorem keyedAc : Keyed Try.prog 35 := Keyed.of_law (deep_law_laid laidAc (m := 4) (by decide) (by decide +kernel) (by kernel_rfl) (by kernel_rfl))
theorem cellsAc : Try.prog.cellsOf 35 = 3 := by kernel_rfl
theorem cellsInt : Try.prog.cellsOf 3 = 1 := by kernel_rfl
theorem keyTypeAc : Try.prog.keyType 35 = true := by decide +kernel
theorem sizeTypes : 1 ≤ Try.prog.types.size := by decide +kernel
theorem lits_ac (d : Nat) (a : Ac) (h : inAc a) : Try.prog.keyLits (d + 2) 35 [.int .i64 a.1, .int .i64 a.2.1, .int .i64 a.2.2] = some [.int .i64 a.1, .int .i64 a.2.1, .int .i64 a.2.2] := by
  have w1 : (Lit.int .i64 a.1).wf = true := WalkArith.wf_i64 h.1
  have w2 : (Lit.int .i64 a.2.1).wf = true := WalkArith.wf_i64 h.2.1
  have w3 : (Lit.int .i64 a.2.2).wf = true := WalkArith.wf_i64 h.2.2
  simp [Program.keyLits, Try.underlying35, Try.underlying3, cellsAc, cellsInt, w1, w2, w3]
theorem key_ac (a : Ac) (h : inAc a) : ∃ kl, keyOf Try.prog 35 (acV a.1 a.2.1 a.2.2) = some kl := by
  have h9 := sizeTypes
  obtain ⟨d, hd⟩ : ∃ d, Try.prog.types.size + 1 = d + 2 := ⟨Try.prog.types.size - 1, by omega⟩
  have hf : (acV a.1 a.2.1 a.2.2).formed Try.prog 35 = true := by simp [acV, Value.formed, Try.underlying35, cellsAc]
  have hc : (acV a.1 a.2.1 a.2.2).cells.toList = [.int .i64 a.1, .int .i64 a.2.1, .int .i64 a.2.2] := rfl
  unfold keyOf
  simp only [Try.underlying35, keyTypeAc, hf, Bool.and_self, if_true]
  rw [hc, hd, lits_ac d a h]
  exact ⟨_, rfl⟩

/-- A block is a map of at most n entries that holds at each account what g says. -/
def MapS (w : World) (b n : Nat) (g : Ac → Int) : Prop :=
  ∃ D : DataW Unit, w.ownsMap Try.prog 35 readW b n D ∧ IsMap D ∧ ∀ a, inAc a → ∀ kl, keyOf Try.prog 35 (acV a.1 a.2.1 a.2.2) = some kl → D.atKey kl (wD 0) = wD (g a)

theorem zeroW (w : World) : (zeroValue 49).run Try.prog w = .ok (.agg #[.int .i64 0, .int .u64 0]) w := by kernel_rfl

theorem MapS.keep {w w' : World} {b n : Nat} {g : Ac → Int} (h : MapS w b n g) (hg : Grew w w') : MapS w' b n g := by
  obtain ⟨D, h1, h2, h3⟩ := h
  refine ⟨D, ?_, h2, h3⟩
  have hlt := h1.lt
  obtain ⟨es, clock, hb, F, hs, hD⟩ := h1
  exact ⟨es, clock, (hg.block b hlt).trans hb, F, hs, hD⟩
theorem MapS.lt {w : World} {b n : Nat} {g : Ac → Int} (h : MapS w b n g) : b < w.heap.size := by
  obtain ⟨D, h1, _⟩ := h
  exact h1.lt
theorem MapS.new (w : World) : MapS (w.alloc (.map #[] 0)) w.heap.size 0 (fun _ => 0) := by
  refine ⟨.map [], World.ownsMap_made _ _ _ _, isMap_empty, fun a _ kl _ => ?_⟩
  simp [DataW.atKey]
theorem MapS.congr {w : World} {b n : Nat} {g g' : Ac → Int} (h : MapS w b n g) (e : ∀ a, g a = g' a) : MapS w b n g' := by
  have : g = g' := funext e
  exact this ▸ h

/-- 'm[a]'. -/
theorem MapS.look {w : World} {b n : Nat} {g : Ac → Int} (h : MapS w b n g) (a : Ac) (ha : inAc a) :
    (Instr.lookup 46 (.map (some b)) (acV a.1 a.2.1 a.2.2) false).run Try.prog w = .ok (.agg #[.int .i64 (hi64 (g a)), .int .u64 (lo64 (g a))]) w := by
  obtain ⟨D, h1, h2, h3⟩ := h
  obtain ⟨kl, hk⟩ := key_ac a ha
  obtain ⟨v, ps, hrun, hv⟩ := h1.lookup keyedAc Try.underlying46 (zeroW w) (readW_mk 0) hk
  rw [h3 a ha kl hk] at hv
  rw [hrun, readW_inv hv]
/-- 'm[a] = s'. -/
theorem MapS.put {w : World} {b n : Nat} {g g' : Ac → Int} (h : MapS w b n g) (a : Ac) (ha : inAc a) (s : Int) (hn : n < maxLen) (h1 : g' a = s) (h2 : ∀ a', a' ≠ a → g' a' = g a') :
    ∃ w', (Instr.mapUpdate 46 (.map (some b)) (acV a.1 a.2.1 a.2.2) (.agg #[.int .i64 (hi64 s), .int .u64 (lo64 s)])).run Try.prog w = .ok () w' ∧ MapS w' b (n + 1) g' ∧ w.grownBy w' (some b) := by
  obtain ⟨D, k1, k2, k3⟩ := h
  obtain ⟨kl, hk⟩ := key_ac a ha
  obtain ⟨w', hrun, ho, hg⟩ := k1.update keyedAc Try.underlying46 hn hk (readW_mk s)
  refine ⟨w', hrun, ⟨_, ho, k2.put _ _, fun a' ha' kl' hk' => ?_⟩, hg⟩
  by_cases e : a' = a
  · subst e
    rw [hk] at hk'
    cases hk'
    rw [atKey_put_same k2 (keyedAc.key hk), h1]
  · have hne : kl' ≠ kl := fun e2 => by
      subst e2
      have := keyedAc.inj hk' hk
      simp only [acV, Value.agg.injEq] at this
      have t := congrArg Array.toList this
      simp at t
      exact e (Prod.ext t.1 (Prod.ext t.2.1 t.2.2))
    rw [atKey_put_other hne, k3 a' ha' kl' hk', h2 a' e]
end Go.Proofs.Ytmbhkeppikaeaaa.NumK
