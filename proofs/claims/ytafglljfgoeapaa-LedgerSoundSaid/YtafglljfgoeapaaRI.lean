/- A map of the call's own from accounts to sums of 128 bits. -/
import Derived.Test.YtafglljfgoeapaaRD
import Derived.Test.YtafglljfgoeapaaRB
import Derived.Maps.Own
import Derived.Maps.Views
import Derived.DeepKeys4
import Derived.Test.YtafglljfgoeapaaRE
import Derived.Test.YtafglljfgoeapaaRF
import Derived.Test.YtafglljfgoeapaaRG
namespace Go.Proofs.Ytafglljfgoeapaa.NumK
open Go.RowKit Go.Maps

def inInt (n : Int) : Prop := -9223372036854775808 ≤ n ∧ n ≤ 9223372036854775807
def inAc (a : Ac) : Prop := inInt a.1 ∧ inInt a.2.1 ∧ inInt a.2.2
theorem right_inAc {k m c : Int} (h : rightA k m c = true) : inAc (k, m, c) := by
  have := right_in h
  unfold inAc inInt
  dsimp only
  omega

def readW (v : Value) : Option (DataW Unit × List MemPlace) :=
  match v with
  | .agg cs => match cs.toList with
    | [.int .i64 a, .int .u64 b] => some (.agg [.lit (.int .i64 a), .lit (.int .u64 b)], [])
    | _ => none
  | _ => none
def wD (s : Int) : DataW Unit := .agg [.lit (.int .i64 (hi64 s)), .lit (.int .u64 (lo64 s))]
theorem readW_mk (s : Int) : readW (.agg #[.int .i64 (hi64 s), .int .u64 (lo64 s)]) = some (wD s, []) := rfl
theorem readW_inv {v : Value} {s : Int} {ps : List MemPlace} (h : readW v = some (wD s, ps)) : v = .agg #[.int .i64 (hi64 s), .int .u64 (lo64 s)] := by
  unfold readW at h
  split at h
  · split at h
    · rename_i cs a b e
      simp only [wD, Option.some.injEq, Prod.mk.injEq, DataW.agg.injEq, List.cons.injEq, DataW.lit.injEq, Lit.int.injEq] at h
      obtain ⟨⟨⟨_, rfl⟩, ⟨_, rfl⟩, _⟩, _⟩ := h
      congr 1
      exact Array.toList_inj.1 (by rw [e])
    · cases h
  · cases h

theorem laidAc : laidOutB Try.prog = true := by kernel_rfl
theorem keyedAc : Keyed Try.prog 27 := Keyed.of_law (deep_law_laid laidAc (m := 4) (by decide) (by decide +kernel) (by kernel_rfl) (by kernel_rfl))
theorem cellsAc : Try.prog.cellsOf 27 = 3 := by kernel_rfl
theorem cellsInt : Try.prog.cellsOf 3 = 1 := by kernel_rfl
theorem keyTypeAc : Try.prog.keyType 27 = true := by decide +kernel
theorem sizeTypes : 1 ≤ Try.prog.types.size := by decide +kernel
theorem lits_ac (d : Nat) (a : Ac) (h : inAc a) : Try.prog.keyLits (d + 2) 27 [.int .i64 a.1, .int .i64 a.2.1, .int .i64 a.2.2] = some [.int .i64 a.1, .int .i64 a.2.1, .int .i64 a.2.2] := by
  have w1 : (Lit.int .i64 a.1).wf = true := WalkArith.wf_i64 h.1
  have w2 : (Lit.int .i64 a.2.1).wf = true := WalkArith.wf_i64 h.2.1
  have w3 : (Lit.int .i64 a.2.2).wf = true := WalkArith.wf_i64 h.2.2
  simp [Program.keyLits, Try.underlying27, Try.underlying3, cellsAc, cellsInt, w1, w2, w3]
theorem key_ac (a : Ac) (h : inAc a) : ∃ kl, keyOf Try.prog 27 (acV a.1 a.2.1 a.2.2) = some kl := by
  have h9 := sizeTypes
  obtain ⟨d, hd⟩ : ∃ d, Try.prog.types.size + 1 = d + 2 := ⟨Try.prog.types.size - 1, by omega⟩
  have hf : (acV a.1 a.2.1 a.2.2).formed Try.prog 27 = true := by simp [acV, Value.formed, Try.underlying27, cellsAc]
  have hc : (acV a.1 a.2.1 a.2.2).cells.toList = [.int .i64 a.1, .int .i64 a.2.1, .int .i64 a.2.2] := rfl
  unfold keyOf
  simp only [Try.underlying27, keyTypeAc, hf, Bool.and_self, if_true]
  rw [hc, hd, lits_ac d a h]
  exact ⟨_, rfl⟩

/-- A block is a map of at most n entries that holds at each account what g says. -/
def MapS (w : World) (b n : Nat) (g : Ac → Int) : Prop :=
  ∃ D : DataW Unit, w.ownsMap Try.prog 27 readW b n D ∧ IsMap D ∧ ∀ a, inAc a → ∀ kl, keyOf Try.prog 27 (acV a.1 a.2.1 a.2.2) = some kl → D.atKey kl (wD 0) = wD (g a)

theorem zeroW (w : World) : (zeroValue 86).run Try.prog w = .ok (.agg #[.int .i64 0, .int .u64 0]) w := by kernel_rfl

theorem MapS.keep {w w' : World} {b n : Nat} {g : Ac → Int} (h : MapS w b n g) (hg : Grew w w') : MapS w' b n g := by
  obtain ⟨D, h1, h2, h3⟩ := h
  refine ⟨D, ?_, h2, h3⟩
  have hlt := h1.lt
  obtain ⟨es, clock, hb, F, hs, hD⟩ := h1
  exact ⟨es, clock, (hg.block b hlt).trans hb, F, hs, hD⟩
theorem MapS.lt {w : World} {b n : Nat} {g : Ac → Int} (h : MapS w b n g) : b < w.heap.size := by
  obtain ⟨D, h1, _⟩ := h
  exact h1.lt
theorem MapS.new (w : World) : MapS (w.alloc (.map #[] 0)) w.heap.size 0 (fun _ => 0) := by
  refine ⟨.map [], World.ownsMap_made _ _ _ _, isMap_empty, fun a _ kl _ => ?_⟩
  simp [DataW.atKey]
theorem MapS.congr {w : World} {b n : Nat} {g g' : Ac → Int} (h : MapS w b n g) (e : ∀ a, g a = g' a) : MapS w b n g' := by
  have : g = g' := funext e
  exact this ▸ h

/-- 'm[a]'. -/
theorem MapS.look {w : World} {b n : Nat} {g : Ac → Int} (h : MapS w b n g) (a : Ac) (ha : inAc a) :
    (Instr.lookup 97 (.map (some b)) (acV a.1 a.2.1 a.2.2) false).run Try.prog w = .ok (.agg #[.int .i64 (hi64 (g a)), .int .u64 (lo64 (g a))]) w := by
  obtain ⟨D, h1, h2, h3⟩ := h
  obtain ⟨kl, hk⟩ := key_ac a ha
  obtain ⟨v, ps, hrun, hv⟩ := h1.lookup keyedAc Try.underlying97 (zeroW w) (readW_mk 0) hk
  rw [h3 a ha kl hk] at hv
  rw [hrun, readW_inv hv]
/-- 'm[a] = s'. -/
theorem MapS.put {w : World} {b n : Nat} {g g' : Ac → Int} (h : MapS w b n g) (a : Ac) (ha : inAc a) (s : Int) (hn : n < maxLen) (h1 : g' a = s) (h2 : ∀ a', a' ≠ a → g' a' = g a') :
    ∃ w', (Instr.mapUpdate 97 (.map (some b)) (acV a.1 a.2.1 a.2.2) (.agg #[.int .i64 (hi64 s), .int .u64 (lo64 s)])).run Try.prog w = .ok () w' ∧ MapS w' b (n + 1) g' ∧ w.grownBy w' (some b) := by
  obtain ⟨D, k1, k2, k3⟩ := h
  obtain ⟨kl, hk⟩ := key_ac a ha
  obtain ⟨w', hrun, ho, hg⟩ := k1.update keyedAc Try.underlying97 hn hk (readW_mk s)
  refine ⟨w', hrun, ⟨_, ho, k2.put _ _, fun a' ha' kl' hk' => ?_⟩, hg⟩
  by_cases e : a' = a
  · subst e
    rw [hk] at hk'
    cases hk'
    rw [atKey_put_same k2 (keyedAc.key hk), h1]
  · have hne : kl' ≠ kl := fun e2 => by
      subst e2
      have := keyedAc.inj hk' hk
      simp only [acV, Value.agg.injEq] at this
      have t := congrArg Array.toList this
      simp at t
      exact e (Prod.ext t.1 (Prod.ext t.2.1 t.2.2))
    rw [atKey_put_other hne, k3 a' ha' kl' hk', h2 a' e]
end Go.Proofs.Ytafglljfgoeapaa.NumK
namespace Go.Proofs.Ytafglljfgoeapaa.NumK
open Go.RowKit

/-- What stands on an account. -/
def sumA (l : List Lg) (a : Ac) : Int := ((l.filter fun x => decide (x.1 = a)).map (·.2)).sum
def ac0 : Ac := (0, 0, 0)
def joinF (f : Ac → Int) (k : Nat) : List Lg := (allK.take k).filterMap fun a => if f a = 0 then none else some (a, f a)
def joinE (l : List Lg) : Int := if mayL l then (if allK.all (fun a => isMoney (sumA l a)) then 0 else 1) else 3
def joinL (l : List Lg) : List Lg := if joinE l = 0 then joinF (sumA l) 108 else []

theorem sumA_nil (a : Ac) : sumA [] a = 0 := rfl
theorem sumA_append (l m : List Lg) (a : Ac) : sumA (l ++ m) a = sumA l a + sumA m a := by
  unfold sumA
  rw [List.filter_append, List.map_append, List.sum_append]
theorem sumA_one (x : Lg) (a : Ac) : sumA [x] a = if x.1 = a then x.2 else 0 := by
  unfold sumA
  by_cases h : x.1 = a
  · simp [h]
  · simp [h]
theorem sumA_cons (x : Lg) (l : List Lg) (a : Ac) : sumA (x :: l) a = (if x.1 = a then x.2 else 0) + sumA l a := by
  rw [show x :: l = [x] ++ l from rfl, sumA_append, sumA_one]
theorem sumA_snoc (l : List Lg) (j : Nat) (h : j < l.length) (a : Ac) : sumA (l.take (j + 1)) a = sumA (l.take j) a + if (l.getD j lg0).1 = a then (l.getD j lg0).2 else 0 := by
  rw [take_snoc l j lg0 h, sumA_append, sumA_one]
theorem okL_parts {x : Lg} (h : okL x = true) : rightA x.1.1 x.1.2.1 x.1.2.2 = true ∧ -4611686018427387904 ≤ x.2 ∧ x.2 ≤ 4611686018427387904 := by
  unfold okL at h
  simp only [Bool.and_eq_true] at h
  exact ⟨h.1, (isMoney_iff _).1 h.2⟩
theorem may_cons {x : Lg} {l : List Lg} : mayL (x :: l) = true ↔ okL x = true ∧ mayL l = true := by
  unfold mayL; simp
theorem may_take' (l : List Lg) (j : Nat) (h : mayL l = true) : mayL (l.take j) = true := by
  unfold mayL at *
  rw [List.all_eq_true] at *
  exact fun x hx => h x (List.mem_of_mem_take hx)
theorem may_at' (l : List Lg) (j : Nat) (hj : j < l.length) (h : mayL l = true) : okL (l.getD j lg0) = true := by
  unfold mayL at h
  rw [List.all_eq_true] at h
  exact h _ (by rw [show l.getD j lg0 = l[j] by simp [List.getD, hj]]; exact List.getElem_mem hj)
theorem sumA_bd (l : List Lg) (a : Ac) (h : mayL l = true) : -(l.length * 4611686018427387904) ≤ sumA l a ∧ sumA l a ≤ l.length * 4611686018427387904 := by
  induction l with
  | nil => simp [sumA_nil]
  | cons x l ih =>
    rw [may_cons] at h
    have h1 := ih h.2
    have h2 := (okL_parts h.1).2
    rw [sumA_cons, List.length_cons]
    split <;> omega
theorem sumA_wide (l : List Lg) (a : Ac) (h : mayL l = true) (hn : l.length ≤ 1000000) : isWide (sumA l a) = true := by
  have := sumA_bd l a h
  rw [isWide_iff]; omega

theorem allK_getD (k : Nat) (h : k < 108) : allK.getD k ac0 ∈ allK := by
  have h' : k < allK.length := by rw [allK_len]; exact h
  rw [show allK.getD k ac0 = allK[k] by simp [List.getD, h']]
  exact List.getElem_mem h'
theorem joinF_succ (f : Ac → Int) (k : Nat) (h : k < 108) : joinF f (k + 1) = joinF f k ++ if f (allK.getD k ac0) = 0 then [] else [(allK.getD k ac0, f (allK.getD k ac0))] := by
  unfold joinF
  rw [take_snoc allK k ac0 (by rw [allK_len]; exact h), List.filterMap_append]
  congr 1
  by_cases h0 : f (allK.getD k ac0) = 0
  · rw [List.filterMap_cons, if_pos h0, if_pos h0]; rfl
  · rw [List.filterMap_cons, if_neg h0, if_neg h0]; rfl
theorem joinF_len (f : Ac → Int) (k : Nat) : (joinF f k).length ≤ 108 := by
  unfold joinF
  refine Nat.le_trans (List.length_filterMap_le _ _) ?_
  rw [List.length_take, allK_len]; omega
theorem joinL_len (l : List Lg) : (joinL l).length ≤ 108 := by
  unfold joinL
  split
  · exact joinF_len _ _
  · simp
theorem join_no {l : List Lg} (hm : mayL l = true) (k : Nat) (hk : k < 108) (h : isMoney (sumA l (allK.getD k ac0)) = false) : joinE l = 1 := by
  unfold joinE
  rw [if_pos hm, if_neg]
  intro h2
  rw [List.all_eq_true] at h2
  have := h2 _ (allK_getD k hk)
  simp only [h] at this
  cases this
theorem join_yes {l : List Lg} (hm : mayL l = true) (h : ∀ k, k < 108 → isMoney (sumA l (allK.getD k ac0)) = true) : joinE l = 0 := by
  unfold joinE
  rw [if_pos hm, if_pos]
  rw [List.all_eq_true]
  intro a ha
  obtain ⟨i, hi, rfl⟩ := List.getElem_of_mem ha
  have := h i (by rw [allK_len] at hi; exact hi)
  rwa [show allK.getD i ac0 = allK[i] by simp [List.getD, hi]] at this
end Go.Proofs.Ytafglljfgoeapaa.NumK
namespace Go.Proofs.Ytafglljfgoeapaa.NumK
open Go.RowKit Go.Maps

theorem keep4_map {w1 w2 : World} {B M : Nat} {a b c d : Value} (g : w1.grownBy w2 (some M)) (hne : B ≠ M) (h : w1.cell? ⟨B, 0, none⟩ = some a ∧ w1.cell? ⟨B, 1, none⟩ = some b ∧ w1.cell? ⟨B, 2, none⟩ = some c ∧ w1.cell? ⟨B, 3, none⟩ = some d) :
    w2.cell? ⟨B, 0, none⟩ = some a ∧ w2.cell? ⟨B, 1, none⟩ = some b ∧ w2.cell? ⟨B, 2, none⟩ = some c ∧ w2.cell? ⟨B, 3, none⟩ = some d := by
  have hn : some B ≠ some M := fun e => hne (by simpa using e)
  exact ⟨g.cell h.1 hn, g.cell h.2.1 hn, g.cell h.2.2.1 hn, g.cell h.2.2.2 hn⟩
theorem grew_map {w w1 w2 : World} {M : Nat} (h : Grew w w1) (g : w1.grownBy w2 (some M)) (hM : w.heap.size ≤ M) : Grew w w2 :=
  Below.grown h g h.size fun k hk => by cases hk; exact hM

set_option maxRecDepth 100000 in
set_option maxHeartbeats 4000000 in
theorem join_any (A : Option Addr) (n c : Nat) (l : List Lg) (w : World) (h : RowE enLg w A n l) (hn : n ≤ 1000000) :
    Calls Try.prog 51 #[.slice A n c] w fun e w' => ∃ v, e = .returned (.tuple #[v, .int .i64 (joinE l)]) ∧ OwnE enLg w' w.heap.size 53 v (joinL l) ∧ Grew w w' := by
  have HI := Lib.hid h
  have HL := Lib.hid h.len
  have CR := fun w (h : RowE enLg w A n l) => legsRight_any A n c l w h (by omega)
  clear h
  by_cases hm : mayL l = true
  · rw [hm] at CR
    have HM := Lib.hid hm
    have HYES := Lib.hid (join_yes hm)
    have HNO := Lib.hid (join_no hm)
    have hmm := @run_makeMap Try.prog
    clear hm
    have HJL : Hid (joinL l = if joinE l = 0 then joinF (sumA l) 108 else []) := rfl
    generalize joinE l = JE at *
    go_enter Try.func51, Try.ntmps51
    go_wp2_with (go_at_call 49; ((with_reducible refine (CR _ HI.out).mono ?_); rintro e w1 ⟨rfl, hg⟩; have HG1 := Lib.hid hg; clear hg CR))
    have HM0 := Lib.hid (MapS.new w1)
    have HG2 : Hid (Grew w (w1.alloc (.map #[] 0))) := grew_trans HG1.out ((Below.refl _ _).alloc (Nat.le_refl _) _)
    have HWM : Hid (w.heap.size ≤ w1.heap.size) := HG1.out.size
    clear hmm HG1
    generalize w1.heap.size = M at *
    generalize w1.alloc (.map #[] 0) = w2 at *
    go_loopw [18] (fun v18 wr => ∃ j : Nat, v18 = .int .i64 j ∧ j ≤ n ∧ Hid (MapS wr M j (sumA (l.take j))) ∧ Hid (Grew w wr)) (fun v18 _ => n - (intOf v18).toNat)
    case atStart => exact ⟨0, rfl, by omega, HM0.out, HG2.out⟩
    case round =>
      clear HM0 HG2
      obtain ⟨j, rfl, hj, HS, HG⟩ := hrel
      by_cases hlt : j < n
      · have hjl : j < l.length := by rw [HL.out]; exact hlt
        obtain ⟨b, o, rfl, hb, a1, a2, a3, a4⟩ := (HI.out.keep HG.out).lg hlt
        have hok := okL_parts (may_at' l j hjl HM.out)
        have hsn := fun a => sumA_snoc l j hjl a
        have hwa := fun a => sumA_wide (l.take j) a (may_take' l j HM.out) (by rw [List.length_take]; omega)
        have hwb := fun a => sumA_wide (l.take (j + 1)) a (may_take' l (j + 1) HM.out) (by rw [List.length_take]; omega)
        generalize l.getD j lg0 = x at *
        have hia : inAc x.1 := right_inAc hok.1
        have hx : sumA (l.take (j + 1)) x.1 = sumA (l.take j) x.1 + x.2 := by rw [hsn]; simp
        have CP := fun w => plus_any (sumA (l.take j) x.1) x.2 w (hwa x.1) (by omega) (by rw [← hx]; exact hwb x.1)
        have HPUT : Hid (∀ w', MapS w' M j (sumA (l.take j)) → ∃ w3, (Instr.mapUpdate 97 (.map (some M)) (acV x.1.1 x.1.2.1 x.1.2.2) (.agg #[.int .i64 (hi64 (sumA (l.take j) x.1 + x.2)), .int .u64 (lo64 (sumA (l.take j) x.1 + x.2))])).run Try.prog w' = .ok () w3 ∧ MapS w3 M (j + 1) (sumA (l.take (j + 1))) ∧ w'.grownBy w3 (some M)) :=
          fun w' h => h.put x.1 hia _ (by unfold maxLen; omega) hx (fun a' hne => by rw [hsn, if_neg (Ne.symm hne)]; simp)
        have hlk := fun w' (h : MapS w' M j (sumA (l.take j))) => h.look x.1 hia
        have HSD : Hid (∀ w', Grew (wr.alloc (.cells #[.int .i64 x.1.1, .int .i64 x.1.2.1, .int .i64 x.1.2.2, .int .i64 x.2] 53)).drew w' → MapS w' M j (sumA (l.take j)) ∧ Grew w w') :=
          fun w' g => ⟨(HS.out.keep (grew_drew (grew_alloc _ _ _))).keep g, grew_trans HG.out (grew_trans (grew_drew (grew_alloc _ _ _)) g)⟩
        have HNE : Hid (wr.heap.size ≠ M) := by have := HS.out.lt; show _ ≠ _; omega
        have i1 : (j : Int) < (n : Int) := by omega
        have i0 : (0 : Int) ≤ (j : Int) := by omega
        unfold acV at HPUT hlk
        clear hsn hwa hwb hok hia hx hb
        generalize hi64 (sumA (l.take j) x.1) = s1 at *
        generalize lo64 (sumA (l.take j) x.1) = s2 at *
        generalize hi64 (sumA (l.take j) x.1 + x.2) = r1 at *
        generalize lo64 (sumA (l.take j) x.1 + x.2) = r2 at *
        generalize x.1.1 = q1 at *
        generalize x.1.2.1 = q2 at *
        generalize x.1.2.2 = q3 at *
        generalize x.2 = q4 at *
        have h0 : ((wr.alloc (.cells #[.int .i64 q1, .int .i64 q2, .int .i64 q3, .int .i64 q4] 53)).cell? ⟨wr.heap.size, 0, none⟩ = some (.int .i64 q1) ∧ (wr.alloc (.cells #[.int .i64 q1, .int .i64 q2, .int .i64 q3, .int .i64 q4] 53)).cell? ⟨wr.heap.size, 1, none⟩ = some (.int .i64 q2) ∧ (wr.alloc (.cells #[.int .i64 q1, .int .i64 q2, .int .i64 q3, .int .i64 q4] 53)).cell? ⟨wr.heap.size, 2, none⟩ = some (.int .i64 q3) ∧ (wr.alloc (.cells #[.int .i64 q1, .int .i64 q2, .int .i64 q3, .int .i64 q4] 53)).cell? ⟨wr.heap.size, 3, none⟩ = some (.int .i64 q4))
            ∧ wr.heap.size < (wr.alloc (.cells #[.int .i64 q1, .int .i64 q2, .int .i64 q3, .int .i64 q4] 53)).heap.size := ⟨⟨by simp, by simp, by simp, by simp⟩, by simp⟩
        go_wp2
        generalize wr.alloc (.cells #[.int .i64 q1, .int .i64 q2, .int .i64 q3, .int .i64 q4] 53) = w0 at h0 HSD ⊢
        obtain ⟨hc0, hw0⟩ := h0
        have HW0 := Lib.hid hw0
        have hl0 := hlk _ (HSD.out _ (grew_refl _)).1
        clear hw0 HS HG a1 a2 a3 a4 hlk
        go_region_held3 (fun w' => w'.cell? ⟨wr.heap.size, 0, none⟩ = some (.int .i64 q1) ∧ w'.cell? ⟨wr.heap.size, 1, none⟩ = some (.int .i64 q2) ∧ w'.cell? ⟨wr.heap.size, 2, none⟩ = some (.int .i64 q3) ∧ w'.cell? ⟨wr.heap.size, 3, none⟩ = some (.int .i64 q4))
          (first
            | (with_reducible exact keep4 (grew_drew (grew_refl _)) HW0.out hc0)
            | (with_reducible exact keep4 (grew_trans (grew_drew (grew_refl _)) hg2) HW0.out hc0)
            | (with_reducible exact keep4_map hg3 HNE.out (keep4 (grew_trans (grew_drew (grew_refl _)) hg2) HW0.out hc0))
            | (trace_state; fail))
          ((go_at_call 59; refine (CP _).mono ?_; rintro e w2 ⟨rfl, hg2⟩; have HP2 := Lib.hid (HSD.out w2 hg2); obtain ⟨w3, hput, hm3, hg3⟩ := HPUT.out w2 HP2.out.1; have HM3 := Lib.hid hm3; clear hm3))
        have HG3 := Lib.hid (grew_map HP2.out.2 hg3 HWM.out)
        clear HSD HPUT CP hl0 hput hg3 HP2 hg2 hc0 HW0
        go_wp2
        go_roundw
        case rel => exact ⟨j + 1, by go_num, by omega, HM3.out, HG3.out⟩
        case measure => simp only [intOf]; omega
      · obtain rfl : j = n := by omega
        rw [List.take_of_length_le (by rw [HL.out]; exact Nat.le_refl _)] at HS
        have CA : ∀ (w : World) (N : Nat), w.heap.size = N → Calls Try.prog 60 #[.slice (some ⟨N, 0, none⟩) 6 6] (w.alloc (.cells #[.int .i64 1, .int .i64 2, .int .i64 3, .int .i64 4, .int .i64 5, .int .i64 6] 3)) fun e w' => ∃ A c, e = .returned (.slice A 108 c) ∧ RowE enAc w' A 108 allK ∧ Grew w w' := by
          intro w N hN
          refine (aall_any (some ⟨N, 0, none⟩) 6 6 [1, 2, 3, 4, 5, 6] _ (ints6' w 1 2 3 4 5 6 _ N hN) (by omega)).mono ?_
          rintro e w' ⟨v, rfl, ho, hg⟩
          obtain ⟨A, c, rfl, hr, _⟩ := ho.form
          have hl : (allL [1, 2, 3, 4, 5, 6]).length = 108 := allK_len
          rw [hl] at hr ⊢
          exact ⟨A, c, rfl, hr, own_back hg⟩
        go_wp2_with (go_at_call 60; ((with_reducible refine (CA _ _ rfl).mono ?_); rintro e w4 ⟨A2, c2, rfl, hr, hg⟩; have HR := Lib.hid hr; have HS4 := Lib.hid (HS.out.keep hg); have HG4 := Lib.hid (grew_trans HG.out hg); clear hr hg CA))
        clear HS HG
        go_loopw [7, 36] (fun v7 v36 wr => ∃ k : Nat, v36 = .int .i64 k ∧ k ≤ 108 ∧ Hid (OwnE enLg wr w4.heap.size 53 v7 (joinF (sumA l) k)) ∧ Hid (∀ i, i < k → isMoney (sumA l (allK.getD i ac0)) = true) ∧ Hid (Grew w4 wr)) (fun _ v36 _ => 108 - (intOf v36).toNat)
        case atStart => exact ⟨0, rfl, by omega, OwnE.nil enLg _ _ _, (by intro i hi; omega), grew_refl _⟩
        case round =>
          obtain ⟨k, rfl, hk, HO, HK, HG⟩ := hrel
          by_cases hlt : k < 108
          · obtain ⟨b, o, rfl, hb, a1, a2, a3⟩ := (HR.out.keep HG.out).ac hlt
            have hra : rightA (allK.getD k ac0).1 (allK.getD k ac0).2.1 (allK.getD k ac0).2.2 = true := allK_right _ (allK_getD k hlt)
            have hia : inAc (allK.getD k ac0) := right_inAc hra
            have CI := fun w => wint_any (sumA l (allK.getD k ac0)) w
            have hJ := joinF_succ (sumA l) k hlt
            have hJN := joinF_len (sumA l) k
            have hno := HNO.out k hlt
            have hkk : isMoney (sumA l (allK.getD k ac0)) = true → ∀ i, i < k + 1 → isMoney (sumA l (allK.getD i ac0)) = true := fun h i hi => by
              rcases Nat.lt_or_ge i k with h1 | h1
              · exact HK.out i h1
              · obtain rfl : i = k := by omega
                exact h
            have hlook := ((HS4.out.keep HG.out).keep (grew_alloc wr #[.int .i64 (allK.getD k ac0).1, .int .i64 (allK.getD k ac0).2.1, .int .i64 (allK.getD k ac0).2.2] 27)).look (allK.getD k ac0) hia
            have i1 : (k : Int) < 108 := by omega
            have i0 : (0 : Int) ≤ (k : Int) := by omega
            change wr.cell? ⟨b, o + k * 3, none⟩ = some (.int .i64 (allK.getD k ac0).1) at a1
            change wr.cell? ⟨b, o + k * 3 + 1, none⟩ = some (.int .i64 (allK.getD k ac0).2.1) at a2
            change wr.cell? ⟨b, o + k * 3 + 2, none⟩ = some (.int .i64 (allK.getD k ac0).2.2) at a3
            clear hra hia hb HK
            unfold acV at hlook
            generalize allK.getD k ac0 = y at *
            generalize hs : sumA l y = s at *
            have HJ := Lib.hid hJ
            have HJN := Lib.hid hJN
            have HNO1 := Lib.hid hno
            have HKK := Lib.hid hkk
            have HSS := Lib.hid hs
            clear hJ hJN hno hkk hs HNO
            rcases y with ⟨y1, y2, y3⟩
            dsimp only at a1 a2 a3 hlook
            by_cases hm : isMoney s = true
            · rw [capV_in hm, capE_in hm] at CI
              have HKK2 := Lib.hid (HKK.out hm)
              clear HNO1 HKK
              have hsb := (isMoney_iff s).1 hm
              clear hm
              by_cases h0 : s = 0
              · have HJ0 : Hid (joinF (sumA l) (k + 1) = joinF (sumA l) k) := by show _ = _; rw [HJ.out, if_pos h0, List.append_nil]
                rw [← HJ0.out] at HO
                subst h0
                clear HJ HJ0
                go_wp2_with (go_at_call 61; ((with_reducible refine (CI _).mono ?_); rintro e w5 ⟨rfl, hg⟩; have HG5 := Lib.hid (own_back hg); clear hg))
                go_roundw
                case rel => exact ⟨k + 1, by go_num, by omega, HO.out.keep HG5.out, HKK2.out, grew_trans HG.out HG5.out⟩
                case measure => simp only [intOf]; omega
              · have HJ1 : Hid (joinF (sumA l) (k + 1) = joinF (sumA l) k ++ [((y1, y2, y3), s)]) := by show _ = _; rw [HJ.out, if_neg h0]
                have d0 : (s != 0) = true := by simpa using h0
                obtain ⟨b1, b2⟩ := hsb
                have HLW : Hid (w4.heap.size ≤ wr.heap.size) := HG.out.size
                clear HJ h0
                go_wp2_with (first
                  | (go_at_call 61; ((with_reducible refine (CI _).mono ?_); rintro e w5 ⟨rfl, hg⟩; have d1 := own_cell hg 0; have d2 := own_cell hg 1; have d3 := own_cell hg 2; have HG5 := Lib.hid (own_back hg); clear hg))
                  | (at_builtin; refine (wpList_append_E rfl _ _ 25 53 (legV 0 0 0 0) 32 rfl Try.underlying25 info_lg rfl w4.heap.size _ _ rfl ((HO.out.keep HG5.out).keep (grew_alloc _ _ _)) _ 1 1 [((y1, y2, y3), s)] rfl (by intro h; cases h) (rowL_one _ _ _ _ _ _ _ rfl) (by have := HJN.out; unfold maxLen; omega) (by have := HJN.out; omega) (Nat.le_trans (Nat.le_trans HLW.out HG5.out.size) (grew_alloc w5 _ _).size) ?_); intro v6 w6 hv hb6; rw [← HJ1.out] at hv; have HV6 := Lib.hid hv; have HG6 : Hid (Grew w4 w6) := Below.trans (grew_trans HG.out (grew_trans HG5.out (grew_alloc _ _ _))) hb6; clear hv hb6))
                go_roundw
                case rel => exact ⟨k + 1, by go_num, by omega, HV6.out, HKK2.out, HG6.out⟩
                case measure => simp only [intOf]; omega
            · rw [Bool.not_eq_true] at hm
              rw [capV_out hm, capE_out hm] at CI
              have HE1 := Lib.hid (HNO1.out hm)
              have HJ0 : Hid (joinL l = []) := by show _ = _; rw [HJL.out, HE1.out]; rfl
              clear hm HNO1 HKK HJ
              go_wp2_with (go_at_call 61; ((with_reducible refine (CI _).mono ?_); rintro e w5 ⟨rfl, hg⟩; have HG5 := Lib.hid (own_back hg); clear hg))
              go_ret2
              exact ⟨_, by rw [HE1.out]; rfl, by rw [HJ0.out]; exact OwnE.nil enLg _ _ _, grew_trans HG4.out (grew_trans HG.out HG5.out)⟩
          · obtain rfl : k = 108 := by omega
            have HE0 := Lib.hid (HYES.out HK.out)
            have HJ0 : Hid (joinL l = joinF (sumA l) 108) := by show _ = _; rw [HJL.out, HE0.out]; rfl
            go_wp2
            go_ret2
            exact ⟨_, by rw [HE0.out]; rfl, by rw [HJ0.out]; exact HO.out.mono HG4.out.size, grew_trans HG4.out HG.out⟩
  · rw [Bool.not_eq_true] at hm
    rw [hm] at CR
    have HE : Hid (joinE l = 3) := by show _ = _; unfold joinE; rw [hm]; rfl
    have HJ : Hid (joinL l = []) := by show _ = _; unfold joinL; rw [HE.out]; rfl
    rw [HE.out, HJ.out]
    clear hm HE HJ
    go_enter Try.func51, Try.ntmps51
    go_wp2_with (go_at_call 49; ((with_reducible refine (CR _ HI.out).mono ?_); rintro e w1 ⟨rfl, hg⟩; have HG1 := Lib.hid hg; clear hg))
    go_ret2
    exact ⟨_, rfl, OwnE.nil enLg _ _ _, HG1.out⟩
end Go.Proofs.Ytafglljfgoeapaa.NumK
