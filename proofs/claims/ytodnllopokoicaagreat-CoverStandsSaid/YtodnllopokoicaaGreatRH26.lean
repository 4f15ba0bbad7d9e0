/- Legs turned round: the program's and the reference's. -/
import Derived.Test.YtodnllopokoicaaGreatRH25
import Derived.Test.YtodnllopokoicaaGreatRH6
import Derived.Test.YtodnllopokoicaaGreatRH3
import Derived.Test.YtodnllopokoicaaGreatRH1
import Derived.Deep.RegionHeld3
import Derived.Deep.RegionWith
import Derived.Test.YtodnllopokoicaaGreatRH15
import Derived.ChangeKeysEq
import Derived.Laws.StructEq
import Derived.Test.YtodnllopokoicaaGreatRH7
import Derived.Test.YtodnllopokoicaaGreatRH23
import Derived.Test.YtodnllopokoicaaGreatRH5
namespace Go.Proofs.YtodnllopokoicaaGreat.NumK
open Go.RowKit

theorem keep4 {w1 w2 : World} {B : Nat} {a b c d : Value} (g : Grew w1 w2) (hB : B < w1.heap.size) (h : w1.cell? ⟨B, 0, none⟩ = some a ∧ w1.cell? ⟨B, 1, none⟩ = some b ∧ w1.cell? ⟨B, 2, none⟩ = some c ∧ w1.cell? ⟨B, 3, none⟩ = some d) :
    w2.cell? ⟨B, 0, none⟩ = some a ∧ w2.cell? ⟨B, 1, none⟩ = some b ∧ w2.cell? ⟨B, 2, none⟩ = some c ∧ w2.cell? ⟨B, 3, none⟩ = some d :=
  ⟨(grew_cell g (p := ⟨B, 0, none⟩) hB).trans h.1, (grew_cell g (p := ⟨B, 1, none⟩) hB).trans h.2.1, (grew_cell g (p := ⟨B, 2, none⟩) hB).trans h.2.2.1, (grew_cell g (p := ⟨B, 3, none⟩) hB).trans h.2.2.2⟩
end Go.Proofs.YtodnllopokoicaaGreat.NumK
namespace Go.Proofs.YtodnllopokoicaaGreat.NumK
open Go.RowKit

end Go.Proofs.YtodnllopokoicaaGreat.NumK
namespace Go.Proofs.YtodnllopokoicaaGreat.NumK
open Go.RowKit

end Go.Proofs.YtodnllopokoicaaGreat.NumK
namespace Go.Proofs.YtodnllopokoicaaGreat.NumK
open Go.RowKit

/-- What stands of a currency. -/
def sumC (l : List Lg) (c : Int) : Int := ((l.filter fun x => decide (x.1.2.2 = c)).map (·.2)).sum
def evenL (l : List Lg) : Bool := decide (sumC l 0 = 0) && decide (sumC l 1 = 0) && decide (sumC l 2 = 0)
/-- Three sums in a block of the call's own. -/
structure Sums3 (w : World) (B : Nat) (s : Nat → Int) : Prop where
  lt : B < w.heap.size
  c0 : ∀ q, q < 3 → w.cell? ⟨B, q * 2, none⟩ = some (.int .i64 (hi64 (s q)))
  c1 : ∀ q, q < 3 → w.cell? ⟨B, q * 2 + 1, none⟩ = some (.int .u64 (lo64 (s q)))
  f0 : ∀ q, q < 3 → w.frozen? ⟨B, q * 2, none⟩ = false
  f1 : ∀ q, q < 3 → w.frozen? ⟨B, q * 2 + 1, none⟩ = false
theorem Sums3.keep {w w' : World} {B : Nat} {s : Nat → Int} (h : Sums3 w B s) (g : Grew w w') : Sums3 w' B s :=
  ⟨Nat.lt_of_lt_of_le h.lt g.size, fun q hq => (grew_cell g (p := ⟨B, q * 2, none⟩) h.lt).trans (h.c0 q hq), fun q hq => (grew_cell g (p := ⟨B, q * 2 + 1, none⟩) h.lt).trans (h.c1 q hq),
    fun q hq => (Below.frozen g (p := ⟨B, q * 2, none⟩) h.lt).trans (h.f0 q hq), fun q hq => (Below.frozen g (p := ⟨B, q * 2 + 1, none⟩) h.lt).trans (h.f1 q hq)⟩
theorem Sums3.new (w : World) (t : TypeId) : Sums3 (w.alloc (.cells #[.int .i64 0, .int .u64 0, .int .i64 0, .int .u64 0, .int .i64 0, .int .u64 0] t)) w.heap.size (fun _ => 0) := by
  refine ⟨by simp, fun q hq => ?_, fun q hq => ?_, fun q hq => by simp, fun q hq => by simp⟩
  · refine (World.cell?_alloc_at _ _ _ _ rfl).trans ?_
    match q, hq with
    | 0, _ => rfl
    | 1, _ => rfl
    | 2, _ => rfl
  · refine (World.cell?_alloc_at _ _ _ _ rfl).trans ?_
    match q, hq with
    | 0, _ => rfl
    | 1, _ => rfl
    | 2, _ => rfl
theorem Sums3.set {w : World} {B : Nat} {s s' : Nat → Int} (h : Sums3 w B s) (i : Nat) (hi : i < 3) (v : Int) (h1 : s' i = v) (h2 : ∀ q, q < 3 → q ≠ i → s' q = s q) :
    Sums3 ((w.setCell ⟨B, i * 2, none⟩ (.int .i64 (hi64 v))).setCell ⟨B, i * 2 + 1, none⟩ (.int .u64 (lo64 v))) B s' := by
  have ne : ∀ a b : Nat, a ≠ b → (⟨B, a, none⟩ : Addr) ≠ ⟨B, b, none⟩ := fun a b h e => h (by simp at e)
  refine ⟨by simp [World.setCell]; exact h.lt, fun q hq => ?_, fun q hq => ?_, fun q hq => by rw [World.frozen?_setCell, World.frozen?_setCell]; exact h.f0 q hq, fun q hq => by rw [World.frozen?_setCell, World.frozen?_setCell]; exact h.f1 q hq⟩
  · rw [World.cell?_setCell_other _ _ _ _ (ne _ _ (by omega))]
    by_cases c : q = i
    · subst c
      rw [World.cell?_setCell_same _ _ _ (h.c0 q hq), h1]
    · rw [World.cell?_setCell_other _ _ _ _ (ne _ _ (by omega)), h.c0 q hq, h2 q hq c]
  · by_cases c : q = i
    · subst c
      rw [World.cell?_setCell_same _ _ _ ((World.cell?_setCell_other _ _ _ _ (ne _ _ (by omega))).trans (h.c1 q hq)), h1]
    · rw [World.cell?_setCell_other _ _ _ _ (ne _ _ (by omega)), World.cell?_setCell_other _ _ _ _ (ne _ _ (by omega)), h.c1 q hq, h2 q hq c]

end Go.Proofs.YtodnllopokoicaaGreat.NumK
namespace Go.Proofs.YtodnllopokoicaaGreat.NumK
open Go.RowKit Go.Maps

end Go.Proofs.YtodnllopokoicaaGreat.NumK
namespace Go.Proofs.YtodnllopokoicaaGreat.NumK
open Go.RowKit

def checkE (l : List Lg) : Int := if l.length = 0 then 2 else if 64 < l.length then 5 else if mayL l then (if evenL l then 0 else 12) else 3

end Go.Proofs.YtodnllopokoicaaGreat.NumK
namespace Go.Proofs.YtodnllopokoicaaGreat.NumK
open Go.RowKit

theorem join_zero {l : List Lg} (h : joinE l = 0) : mayL l = true ∧ ∀ a ∈ allK, isMoney (sumA l a) = true := by
  unfold joinE at h
  by_cases hm : mayL l = true
  · rw [if_pos hm] at h
    refine ⟨hm, ?_⟩
    by_cases h2 : allK.all (fun a => isMoney (sumA l a)) = true
    · exact List.all_eq_true.1 h2
    · rw [if_neg h2] at h; cases h
  · rw [if_neg hm] at h; cases h
theorem allK_nodup : allK.Nodup := by decide +kernel
def pick (f : Ac → Int) (a : Ac) : Option Lg := if f a = 0 then none else some (a, f a)
theorem sumA_pick (f : Ac → Int) (L : List Ac) (hd : L.Nodup) (b : Ac) : sumA (L.filterMap (pick f)) b = if b ∈ L then f b else 0 := by
  induction L with
  | nil => simp [sumA_nil]
  | cons a L ih =>
    rw [List.nodup_cons] at hd
    have ih := ih hd.2
    rw [List.filterMap_cons]
    by_cases hab : a = b
    · subst hab
      rw [if_neg hd.1] at ih
      rw [if_pos (by simp)]
      by_cases h0 : f a = 0
      · rw [show pick f a = none by unfold pick; rw [if_pos h0], h0]; exact ih
      · rw [show pick f a = some (a, f a) by unfold pick; rw [if_neg h0]]
        dsimp only
        rw [sumA_cons, ih]; simp
    · have hmem : (if b ∈ a :: L then f b else 0) = if b ∈ L then f b else 0 := by simp [Ne.symm hab]
      rw [hmem, ← ih]
      by_cases h0 : f a = 0
      · rw [show pick f a = none by unfold pick; rw [if_pos h0]]
      · rw [show pick f a = some (a, f a) by unfold pick; rw [if_neg h0]]
        dsimp only
        rw [sumA_cons, if_neg hab]; omega
theorem joinF_pick (f : Ac → Int) : joinF f 108 = allK.filterMap (pick f) := by
  unfold joinF
  rw [List.take_of_length_le (by rw [allK_len]; exact Nat.le_refl _)]; rfl
theorem sumA_out (l : List Lg) (a : Ac) (hm : mayL l = true) (h : a ∉ allK) : sumA l a = 0 := by
  induction l with
  | nil => rfl
  | cons x l ih =>
    rw [may_cons] at hm
    rw [sumA_cons, ih hm.2, if_neg]
    · rfl
    · rintro rfl
      exact h (mem_allK x.1 (okL_parts hm.1).1)
/-- What is joined stands as what was joined. -/
theorem joined {l : List Lg} (h : joinE l = 0) : mayL (joinL l) = true ∧ ∀ a, sumA (joinL l) a = sumA l a := by
  obtain ⟨hm, hk⟩ := join_zero h
  have e : joinL l = allK.filterMap (pick (sumA l)) := by unfold joinL; rw [if_pos h, joinF_pick]
  rw [e]
  constructor
  · unfold mayL
    rw [List.all_eq_true]
    intro x hx
    obtain ⟨a, ha, hp⟩ := List.mem_filterMap.1 hx
    unfold pick at hp
    split at hp
    · cases hp
    · cases hp
      unfold okL
      rw [hk a ha, Bool.and_true]
      exact allK_right a ha
  · intro a
    rw [sumA_pick _ _ allK_nodup]
    split
    · rfl
    · rename_i hn; rw [sumA_out l a hm hn]
/-! ### currencies -/
/-! ### turns -/
/-! ### moves -/
end Go.Proofs.YtodnllopokoicaaGreat.NumK
namespace Go.Proofs.YtodnllopokoicaaGreat.NumK
open Go.RowKit

def lessB (a b : Ac) : Bool := lessA a.1 a.2.1 a.2.2 b.1 b.2.1 b.2.2
def floorB (a : Ac) : Int := floorA a.1 a.2.1 a.2.2
def okB (x : Lg) : Bool := okL x && decide (x.2 ≠ 0) && decide (floorB x.1 ≤ x.2)
def stepB (l : List Lg) (i : Nat) : Bool := okB (l.getD i lg0) && (decide (i = 0) || lessB (l.getD (i - 1) lg0).1 (l.getD i lg0).1)
/-- The balances rise, and each may be what it is. -/
def rightLg (l : List Lg) : Bool := (List.range l.length).all (stepB l)
def ledgerB (last : Int) (l : List Lg) : Bool := decide (0 ≤ last) && rightLg l && evenL l

theorem rightLg_iff (l : List Lg) : rightLg l = true ↔ ∀ i, i < l.length → stepB l i = true := by
  unfold rightLg
  rw [List.all_eq_true]
  exact ⟨fun h i hi => h i (List.mem_range.2 hi), fun h i hi => h i (List.mem_range.1 hi)⟩
theorem rightB_no (l : List Lg) (i : Nat) (hi : i < l.length) (h : stepB l i = false) : rightLg l = false := by
  rw [← Bool.not_eq_true, rightLg_iff]
  intro hh
  have := hh i hi
  rw [h] at this; cases this

/-! ### the order -/
theorem lessB_iff (a b : Ac) : lessB a b = true ↔ a.1 < b.1 ∨ (a.1 = b.1 ∧ (a.2.1 < b.2.1 ∨ (a.2.1 = b.2.1 ∧ a.2.2 < b.2.2))) := by
  unfold lessB lessA
  split
  · split
    · simp; omega
    · simp; omega
  · simp; omega
theorem lessB_irrefl (a : Ac) : lessB a a = false := by
  rw [← Bool.not_eq_true, lessB_iff]; omega
theorem lessB_trans {a b c : Ac} (h : lessB a b = true) (k : lessB b c = true) : lessB a c = true := by
  rw [lessB_iff] at *; omega
theorem lessB_ne {a b : Ac} (h : lessB a b = true) : a ≠ b := by
  rintro rfl; rw [lessB_irrefl] at h; cases h
def RiseLg (l : List Lg) : Prop := l.Pairwise fun x y => lessB x.1 y.1 = true
theorem rise_of_step (l : List Lg) (h : ∀ i, i < l.length → 0 < i → lessB (l.getD (i - 1) lg0).1 (l.getD i lg0).1 = true) : RiseLg l := by
  have key : ∀ j i, i < j → j < l.length → lessB (l.getD i lg0).1 (l.getD j lg0).1 = true := by
    intro j
    induction j with
    | zero => intro i hi; omega
    | succ j ih =>
      intro i hi hj
      have h1 := h (j + 1) hj (by omega)
      rw [show j + 1 - 1 = j by omega] at h1
      by_cases e : i = j
      · subst e; exact h1
      · exact lessB_trans (ih i (by omega) (by omega)) h1
  unfold RiseLg
  rw [List.pairwise_iff_getElem]
  intro i j hi hj hij
  have := key j i hij hj
  simpa [List.getD, hi, hj] using this
theorem rightB_parts {l : List Lg} (h : rightLg l = true) : (∀ x ∈ l, okB x = true) ∧ RiseLg l := by
  rw [rightLg_iff] at h
  constructor
  · intro x hx
    obtain ⟨i, hi, rfl⟩ := List.getElem_of_mem hx
    have := h i hi
    unfold stepB at this
    rw [Bool.and_eq_true] at this
    rw [show l.getD i lg0 = l[i] by simp [List.getD, hi]] at this
    exact this.1
  · refine rise_of_step l fun i hi h0 => ?_
    have := h i hi
    unfold stepB at this
    rw [Bool.and_eq_true, Bool.or_eq_true] at this
    rcases this.2 with h1 | h1
    · simp at h1; omega
    · exact h1
theorem okB_parts {x : Lg} (h : okB x = true) : okL x = true ∧ x.2 ≠ 0 ∧ floorB x.1 ≤ x.2 := by
  unfold okB at h
  simp only [Bool.and_eq_true, decide_eq_true_eq] at h
  exact ⟨h.1.1, h.1.2, h.2⟩
theorem rightB_may {l : List Lg} (h : rightLg l = true) : mayL l = true := by
  unfold mayL
  rw [List.all_eq_true]
  exact fun x hx => (okB_parts ((rightB_parts h).1 x hx)).1

/-! ### what an account has -/
def ofL (l : List Lg) (a : Ac) : Int := match l with | [] => 0 | x :: l => if x.1 = a then x.2 else ofL l a
theorem ofL_cons (x : Lg) (l : List Lg) (a : Ac) : ofL (x :: l) a = if x.1 = a then x.2 else ofL l a := rfl
theorem ofL_drop (l : List Lg) (a : Ac) (k : Nat) (h : ∀ i, i < k → i < l.length → (l.getD i lg0).1 ≠ a) : ofL l a = ofL (l.drop k) a := by
  induction k with
  | zero => rfl
  | succ k ih =>
    rw [ih fun i hi hl => h i (by omega) hl]
    rcases Nat.lt_or_ge k l.length with c | c
    · rw [List.drop_eq_getElem_cons c, ofL_cons, if_neg]
      have := h k (by omega) c
      rwa [show l.getD k lg0 = l[k] by simp [List.getD, c]] at this
    · rw [List.drop_of_length_le c, List.drop_of_length_le (by omega)]
theorem ofL_found (l : List Lg) (a : Ac) (k : Nat) (hk : k < l.length) (h : ∀ i, i < k → (l.getD i lg0).1 ≠ a) (e : (l.getD k lg0).1 = a) : ofL l a = (l.getD k lg0).2 := by
  rw [ofL_drop l a k fun i hi _ => h i hi, List.drop_eq_getElem_cons hk, ofL_cons]
  rw [show l.getD k lg0 = l[k] by simp [List.getD, hk]] at *
  rw [if_pos e]
theorem ofL_none (l : List Lg) (a : Ac) (h : ∀ i, i < l.length → (l.getD i lg0).1 ≠ a) : ofL l a = 0 := by
  rw [ofL_drop l a l.length fun i hi _ => h i hi, List.drop_length]; rfl
theorem sumA_none (l : List Lg) (a : Ac) (h : ∀ x ∈ l, x.1 ≠ a) : sumA l a = 0 := by
  induction l with
  | nil => rfl
  | cons x l ih => rw [sumA_cons, if_neg (h x (by simp)), ih fun y hy => h y (by simp [hy])]; rfl
theorem ofL_sum {l : List Lg} (h : RiseLg l) (a : Ac) : ofL l a = sumA l a := by
  induction l with
  | nil => rfl
  | cons x l ih =>
    have h := List.pairwise_cons.1 h
    rw [ofL_cons, sumA_cons]
    split
    · rename_i e
      rw [sumA_none l a]
      · omega
      · intro y hy e2
        have := h.1 y hy
        rw [e, e2, lessB_irrefl] at this; cases this
    · rw [ih h.2]; omega
theorem ofL_mem {l : List Lg} (h : RiseLg l) (x : Lg) (hx : x ∈ l) : sumA l x.1 = x.2 := by
  rw [← ofL_sum h]
  induction l with
  | nil => cases hx
  | cons y l ih =>
    have h := List.pairwise_cons.1 h
    rw [ofL_cons]
    rcases List.mem_cons.1 hx with rfl | hx
    · rw [if_pos rfl]
    · rw [if_neg (lessB_ne (h.1 x hx)), ih h.2 hx]
theorem sumA_money {l : List Lg} (h : rightLg l = true) (a : Ac) : isMoney (sumA l a) = true ∧ (a ∈ allK → floorB a ≤ sumA l a) := by
  obtain ⟨h1, h2⟩ := rightB_parts h
  by_cases c : ∃ x ∈ l, x.1 = a
  · obtain ⟨x, hx, rfl⟩ := c
    rw [ofL_mem h2 x hx]
    obtain ⟨k1, _, k3⟩ := okB_parts (h1 x hx)
    exact ⟨by rw [isMoney_iff]; exact (okL_parts k1).2, fun _ => k3⟩
  · rw [sumA_none l a fun x hx e => c ⟨x, hx, e⟩]
    refine ⟨by decide, fun _ => ?_⟩
    unfold floorB floorA
    split <;> omega

/-! ### postings -/
def addLgE (l m : List Lg) : Int :=
  if allK.all (fun a => isMoney (sumA (l ++ m) a)) then (if allK.all (fun a => decide (floorB a ≤ sumA (l ++ m) a)) then 0 else 13) else 1
def postE (last : Int) (l : List Lg) (id : Int) (m : List Lg) : Int :=
  if ledgerB last l then (if id < 1 ∨ 1099511627776 < id then 3 else if id ≤ last then 18 else if checkE m = 0 then addLgE l m else checkE m) else 14
def postL (last : Int) (l : List Lg) (id : Int) (m : List Lg) : List Lg := if postE last l id m = 0 then joinF (sumA (l ++ m)) 108 else []
def postN (last : Int) (l : List Lg) (id : Int) (m : List Lg) : Int := if postE last l id m = 0 then id else 0

/-! ### totals -/
def inK (cur : Int) (kinds : List Int) (x : Lg) : Bool := decide (x.1.2.2 = cur) && kinds.contains x.1.1
def sumK (l : List Lg) (cur : Int) (kinds : List Int) : Int := ((l.filter (inK cur kinds)).map (·.2)).sum
theorem sumK_all (l : List Lg) (cur : Int) (kinds : List Int) (hm : mayL l = true) (h : ∀ k : Int, 1 ≤ k → k ≤ 6 → k ∈ kinds) : (l.filter (inK cur kinds)) = l.filter fun x => decide (x.1.2.2 = cur) := by
  refine List.filter_congr fun x hx => ?_
  have h1 := List.all_eq_true.1 hm x hx
  have h2 := (okL_parts h1).1
  unfold rightA at h2
  simp only [Bool.and_eq_true, decide_eq_true_eq] at h2
  unfold inK
  rw [show kinds.contains x.1.1 = true by rw [List.contains_iff_mem]; exact h _ h2.1.1.1 h2.1.1.2, Bool.and_true]
end Go.Proofs.YtodnllopokoicaaGreat.NumK
namespace Go.Proofs.YtodnllopokoicaaGreat.NumK
open Go.RowKit

theorem rowI_one (w : World) (n : Int) (t : TypeId) (N : Nat) (hN : w.heap.size = N) : RowE enInt (w.alloc (.cells #[.int .i64 n] t)) (some ⟨N, 0, none⟩) 1 [n] := by
  subst hN
  refine ⟨rfl, fun _ => ⟨_, _, rfl, by simp, fun j hj => ⟨_, rfl, fun i hi => ?_⟩⟩⟩
  have hi : i < 1 := hi
  have hj : j < 1 := hj
  match j, hj, i, hi with
  | 0, _, 0, _ => exact (World.cell?_alloc_at _ _ _ _ rfl).trans rfl

theorem same_any (k m c k' m' c' : Int) (w : World) : Calls Tryz.prog 84 #[acV k m c, acV k' m' c'] w fun e w' => e = .returned (.bool (sameA k m c k' m' c')) ∧ Grew w w' := by
  unfold acV
  go_enter Tryz.func84, Tryz.ntmps84
  go_wp2
  all_goals go_ret
  all_goals exact ⟨ret_b (by rw [Bool.eq_iff_iff]; simp_all [sameA]), grew_trans (grew_alloc _ _ _) (grew_alloc _ _ _)⟩

/-- The amounts of the legs of which p holds. -/
def amts (p : Lg → Bool) (l : List Lg) : List Int := (l.filter p).map (·.2)
theorem amts_snoc (p : Lg → Bool) (l : List Lg) (j : Nat) (h : j < l.length) : amts p (l.take (j + 1)) = amts p (l.take j) ++ if p (l.getD j lg0) then [(l.getD j lg0).2] else [] := by
  unfold amts
  rw [take_snoc l j lg0 h, List.filter_append, List.map_append]
  congr 1
  generalize l.getD j lg0 = x
  cases h : p x
  · simp [h]
  · simp [h]
theorem amts_len (p : Lg → Bool) (l : List Lg) : (amts p l).length ≤ l.length := by
  unfold amts; rw [List.length_map]; exact List.length_filter_le _ _
theorem amts_in (p : Lg → Bool) (l : List Lg) (h : mayL l = true) : ∀ z ∈ amts p l, -9223372036854775808 ≤ z ∧ z ≤ 9223372036854775807 := by
  intro z hz
  unfold amts at hz
  obtain ⟨x, hx, rfl⟩ := List.mem_map.1 hz
  have h1 := (List.all_eq_true.1 h) x (List.mem_filter.1 hx).1
  have := (okL_parts h1).2
  omega
theorem amts_C (l : List Lg) (c : Int) : (amts (fun x => decide (x.1.2.2 = c)) l).sum = sumC l c := rfl
theorem intV_ne (s : Int) : (isMoney s = true ∧ intV s = 0) ↔ s = 0 := by
  unfold intV
  constructor
  · rintro ⟨h1, h2⟩; rw [h1] at h2; exact h2
  · rintro rfl; exact ⟨by decide, by decide⟩

end Go.Proofs.YtodnllopokoicaaGreat.NumK
namespace Go.Proofs.YtodnllopokoicaaGreat.NumK
open Go.RowKit

end Go.Proofs.YtodnllopokoicaaGreat.NumK
