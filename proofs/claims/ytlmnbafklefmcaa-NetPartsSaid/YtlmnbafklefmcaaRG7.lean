/- entry.Check. -/
import Derived.Test.YtlmnbafklefmcaaRG6
import Derived.Test.YtlmnbafklefmcaaRG3
import Derived.Test.YtlmnbafklefmcaaRG2
import Derived.Deep.RegionHeld3
import Derived.Test.YtlmnbafklefmcaaRG1
import Derived.BigQuiet
import Derived.Test.YtlmnbafklefmcaaRG4
import Derived.Deep.DeepCutAuto
import Derived.Deep.Light
namespace Go.Proofs.Ytlmnbafklefmcaa.NumK
open Go.RowKit

def checkE (l : List Lg) : Int := if l.length = 0 then 2 else if 64 < l.length then 5 else if mayL l then (if evenL l then 0 else 12) else 3

end Go.Proofs.Ytlmnbafklefmcaa.NumK
namespace Go.Proofs.Ytlmnbafklefmcaa.NumK
open Go.RowKit

theorem may_append (l m : List Lg) : mayL (l ++ m) = (mayL l && mayL m) := by unfold mayL; rw [List.all_append]
theorem join_congr {l m : List Lg} (h : mayL l = mayL m) (hs : ∀ a, sumA l a = sumA m a) : joinE l = joinE m ∧ joinL l = joinL m := by
  have e : sumA l = sumA m := funext hs
  have h1 : joinE l = joinE m := by unfold joinE; rw [h, e]
  exact ⟨h1, by unfold joinL; rw [h1, e]⟩
theorem join_zero {l : List Lg} (h : joinE l = 0) : mayL l = true ∧ ∀ a ∈ allK, isMoney (sumA l a) = true := by
  unfold joinE at h
  by_cases hm : mayL l = true
  · rw [if_pos hm] at h
    refine ⟨hm, ?_⟩
    by_cases h2 : allK.all (fun a => isMoney (sumA l a)) = true
    · exact List.all_eq_true.1 h2
    · rw [if_neg h2] at h; cases h
  · rw [if_neg hm] at h; cases h
theorem allK_nodup : allK.Nodup := by decide +kernel
def pick (f : Ac → Int) (a : Ac) : Option Lg := if f a = 0 then none else some (a, f a)
theorem sumA_pick (f : Ac → Int) (L : List Ac) (hd : L.Nodup) (b : Ac) : sumA (L.filterMap (pick f)) b = if b ∈ L then f b else 0 := by
  induction L with
  | nil => simp [sumA_nil]
  | cons a L ih =>
    rw [List.nodup_cons] at hd
    have ih := ih hd.2
    rw [List.filterMap_cons]
    by_cases hab : a = b
    · subst hab
      rw [if_neg hd.1] at ih
      rw [if_pos (by simp)]
      by_cases h0 : f a = 0
      · rw [show pick f a = none by unfold pick; rw [if_pos h0], h0]; exact ih
      · rw [show pick f a = some (a, f a) by unfold pick; rw [if_neg h0]]
        dsimp only
        rw [sumA_cons, ih]; simp
    · have hmem : (if b ∈ a :: L then f b else 0) = if b ∈ L then f b else 0 := by simp [Ne.symm hab]
      rw [hmem, ← ih]
      by_cases h0 : f a = 0
      · rw [show pick f a = none by unfold pick; rw [if_pos h0]]
      · rw [show pick f a = some (a, f a) by unfold pick; rw [if_neg h0]]
        dsimp only
        rw [sumA_cons, if_neg hab]; omega
theorem joinF_pick (f : Ac → Int) : joinF f 108 = allK.filterMap (pick f) := by
  unfold joinF
  rw [List.take_of_length_le (by rw [allK_len]; exact Nat.le_refl _)]; rfl
theorem sumA_out (l : List Lg) (a : Ac) (hm : mayL l = true) (h : a ∉ allK) : sumA l a = 0 := by
  induction l with
  | nil => rfl
  | cons x l ih =>
    rw [may_cons] at hm
    rw [sumA_cons, ih hm.2, if_neg]
    · rfl
    · rintro rfl
      exact h (mem_allK x.1 (okL_parts hm.1).1)
/-- What is joined stands as what was joined. -/
theorem joined {l : List Lg} (h : joinE l = 0) : mayL (joinL l) = true ∧ ∀ a, sumA (joinL l) a = sumA l a := by
  obtain ⟨hm, hk⟩ := join_zero h
  have e : joinL l = allK.filterMap (pick (sumA l)) := by unfold joinL; rw [if_pos h, joinF_pick]
  rw [e]
  constructor
  · unfold mayL
    rw [List.all_eq_true]
    intro x hx
    obtain ⟨a, ha, hp⟩ := List.mem_filterMap.1 hx
    unfold pick at hp
    split at hp
    · cases hp
    · cases hp
      unfold okL
      rw [hk a ha, Bool.and_true]
      exact allK_right a ha
  · intro a
    rw [sumA_pick _ _ allK_nodup]
    split
    · rfl
    · rename_i hn; rw [sumA_out l a hm hn]
/-! ### currencies -/
theorem sumC_append (l m : List Lg) (c : Int) : sumC (l ++ m) c = sumC l c + sumC m c := by
  unfold sumC
  rw [List.filter_append, List.map_append, List.sum_append]
theorem sumC_cons (x : Lg) (l : List Lg) (c : Int) : sumC (x :: l) c = (if x.1.2.2 = c then x.2 else 0) + sumC l c := by
  unfold sumC
  by_cases h : x.1.2.2 = c
  · simp [h]
  · simp [h]
theorem sum_if (L : List Ac) (b : Ac) (v : Int) (hd : L.Nodup) : (L.map fun a => if b = a then v else 0).sum = if b ∈ L then v else 0 := by
  induction L with
  | nil => simp
  | cons a L ih =>
    rw [List.nodup_cons] at hd
    rw [List.map_cons, List.sum_cons, ih hd.2]
    by_cases h : b = a
    · subst h; simp [hd.1]
    · simp [h]
theorem esum_add (L : List Ac) (f g : Ac → Int) : (L.map fun a => f a + g a).sum = (L.map f).sum + (L.map g).sum := by
  induction L with
  | nil => rfl
  | cons a L ih => simp only [List.map_cons, List.sum_cons, ih]; omega
theorem sumC_eq (l : List Lg) (c : Int) (hm : mayL l = true) : sumC l c = ((allK.filter fun a => decide (a.2.2 = c)).map (sumA l)).sum := by
  induction l with
  | nil =>
    have : ∀ L : List Ac, (L.map (sumA [])).sum = 0 := by
      intro L
      induction L with
      | nil => rfl
      | cons a L ih => rw [List.map_cons, List.sum_cons, ih]; rfl
    rw [this]; rfl
  | cons x l ih =>
    rw [may_cons] at hm
    have e : sumA (x :: l) = fun a => (if x.1 = a then x.2 else 0) + sumA l a := funext (sumA_cons x l)
    rw [sumC_cons, ih hm.2, e, esum_add, sum_if _ _ _ (allK_nodup.filter _)]
    congr 1
    have hin := mem_allK x.1 (okL_parts hm.1).1
    by_cases hc : x.1.2.2 = c
    · rw [if_pos hc, if_pos (List.mem_filter.2 ⟨hin, by simpa using hc⟩)]
    · rw [if_neg hc, if_neg (fun h => hc (by simpa using (List.mem_filter.1 h).2))]
theorem even_congr {l m : List Lg} (hl : mayL l = true) (hm : mayL m = true) (hs : ∀ a, sumA l a = sumA m a) : evenL l = evenL m := by
  have e : sumA l = sumA m := funext hs
  have hc : ∀ c, sumC l c = sumC m c := fun c => by rw [sumC_eq l c hl, sumC_eq m c hm, e]
  unfold evenL
  rw [hc, hc, hc]
theorem check_zero {l : List Lg} : checkE l = 0 ↔ l.length ≠ 0 ∧ l.length ≤ 64 ∧ mayL l = true ∧ evenL l = true := by
  unfold checkE
  by_cases h0 : l.length = 0
  · rw [if_pos h0]; simp [h0]
  · rw [if_neg h0]
    by_cases h1 : 64 < l.length
    · rw [if_pos h1]; constructor
      · intro h; cases h
      · rintro ⟨_, h, _⟩; omega
    · rw [if_neg h1]
      by_cases h2 : mayL l = true
      · rw [if_pos h2]
        by_cases h3 : evenL l = true
        · rw [if_pos h3]; exact ⟨fun _ => ⟨h0, by omega, h2, h3⟩, fun _ => rfl⟩
        · rw [if_neg h3]; constructor
          · intro h; cases h
          · rintro ⟨_, _, _, h⟩; exact absurd h h3
      · rw [if_neg h2]; constructor
        · intro h; cases h
        · rintro ⟨_, _, h, _⟩; exact absurd h h2
theorem even_append (l m : List Lg) (h1 : evenL l = true) (h2 : evenL m = true) : evenL (l ++ m) = true := by
  unfold evenL at *
  simp only [Bool.and_eq_true, decide_eq_true_eq] at *
  rw [sumC_append, sumC_append, sumC_append]
  omega
/-! ### turns -/
/-! ### moves -/
end Go.Proofs.Ytlmnbafklefmcaa.NumK
namespace Go.Proofs.Ytlmnbafklefmcaa.NumK
open Go.RowKit

def lessB (a b : Ac) : Bool := lessA a.1 a.2.1 a.2.2 b.1 b.2.1 b.2.2
def floorB (a : Ac) : Int := floorA a.1 a.2.1 a.2.2
def okB (x : Lg) : Bool := okL x && decide (x.2 ≠ 0) && decide (floorB x.1 ≤ x.2)
def stepB (l : List Lg) (i : Nat) : Bool := okB (l.getD i lg0) && (decide (i = 0) || lessB (l.getD (i - 1) lg0).1 (l.getD i lg0).1)
/-- The balances rise, and each may be what it is. -/
def rightLg (l : List Lg) : Bool := (List.range l.length).all (stepB l)
def ledgerB (last : Int) (l : List Lg) : Bool := decide (0 ≤ last) && rightLg l && evenL l

theorem rightLg_iff (l : List Lg) : rightLg l = true ↔ ∀ i, i < l.length → stepB l i = true := by
  unfold rightLg
  rw [List.all_eq_true]
  exact ⟨fun h i hi => h i (List.mem_range.2 hi), fun h i hi => h i (List.mem_range.1 hi)⟩
/-! ### the order -/
theorem lessB_iff (a b : Ac) : lessB a b = true ↔ a.1 < b.1 ∨ (a.1 = b.1 ∧ (a.2.1 < b.2.1 ∨ (a.2.1 = b.2.1 ∧ a.2.2 < b.2.2))) := by
  unfold lessB lessA
  split
  · split
    · simp; omega
    · simp; omega
  · simp; omega
theorem lessB_irrefl (a : Ac) : lessB a a = false := by
  rw [← Bool.not_eq_true, lessB_iff]; omega
theorem lessB_trans {a b c : Ac} (h : lessB a b = true) (k : lessB b c = true) : lessB a c = true := by
  rw [lessB_iff] at *; omega
theorem lessB_asymm {a b : Ac} (h : lessB a b = true) (k : lessB b a = true) : False := by
  rw [lessB_iff] at *; omega
def RiseLg (l : List Lg) : Prop := l.Pairwise fun x y => lessB x.1 y.1 = true
theorem allK_rise : allK.Pairwise fun x y => lessB x y = true := by decide +kernel
theorem rise_of_step (l : List Lg) (h : ∀ i, i < l.length → 0 < i → lessB (l.getD (i - 1) lg0).1 (l.getD i lg0).1 = true) : RiseLg l := by
  have key : ∀ j i, i < j → j < l.length → lessB (l.getD i lg0).1 (l.getD j lg0).1 = true := by
    intro j
    induction j with
    | zero => intro i hi; omega
    | succ j ih =>
      intro i hi hj
      have h1 := h (j + 1) hj (by omega)
      rw [show j + 1 - 1 = j by omega] at h1
      by_cases e : i = j
      · subst e; exact h1
      · exact lessB_trans (ih i (by omega) (by omega)) h1
  unfold RiseLg
  rw [List.pairwise_iff_getElem]
  intro i j hi hj hij
  have := key j i hij hj
  simpa [List.getD, hi, hj] using this
theorem step_of_rise {l : List Lg} (h : RiseLg l) (i : Nat) (hi : i < l.length) (h0 : 0 < i) : lessB (l.getD (i - 1) lg0).1 (l.getD i lg0).1 = true := by
  unfold RiseLg at h
  rw [List.pairwise_iff_getElem] at h
  have := h (i - 1) i (by omega) hi (by omega)
  have h2 : i - 1 < l.length := by omega
  simpa [List.getD, hi, h2] using this
theorem rightB_parts {l : List Lg} (h : rightLg l = true) : (∀ x ∈ l, okB x = true) ∧ RiseLg l := by
  rw [rightLg_iff] at h
  constructor
  · intro x hx
    obtain ⟨i, hi, rfl⟩ := List.getElem_of_mem hx
    have := h i hi
    unfold stepB at this
    rw [Bool.and_eq_true] at this
    rw [show l.getD i lg0 = l[i] by simp [List.getD, hi]] at this
    exact this.1
  · refine rise_of_step l fun i hi h0 => ?_
    have := h i hi
    unfold stepB at this
    rw [Bool.and_eq_true, Bool.or_eq_true] at this
    rcases this.2 with h1 | h1
    · simp at h1; omega
    · exact h1
theorem rightB_of {l : List Lg} (h1 : ∀ x ∈ l, okB x = true) (h2 : RiseLg l) : rightLg l = true := by
  rw [rightLg_iff]
  intro i hi
  unfold stepB
  rw [Bool.and_eq_true, Bool.or_eq_true]
  refine ⟨h1 _ (by rw [show l.getD i lg0 = l[i] by simp [List.getD, hi]]; exact List.getElem_mem hi), ?_⟩
  rcases Nat.eq_zero_or_pos i with h0 | h0
  · exact Or.inl (by simpa using h0)
  · exact Or.inr (step_of_rise h2 i hi h0)
theorem okB_parts {x : Lg} (h : okB x = true) : okL x = true ∧ x.2 ≠ 0 ∧ floorB x.1 ≤ x.2 := by
  unfold okB at h
  simp only [Bool.and_eq_true, decide_eq_true_eq] at h
  exact ⟨h.1.1, h.1.2, h.2⟩
theorem rightB_may {l : List Lg} (h : rightLg l = true) : mayL l = true := by
  unfold mayL
  rw [List.all_eq_true]
  exact fun x hx => (okB_parts ((rightB_parts h).1 x hx)).1

/-! ### what an account has -/
def ofL (l : List Lg) (a : Ac) : Int := match l with | [] => 0 | x :: l => if x.1 = a then x.2 else ofL l a
theorem sumA_none (l : List Lg) (a : Ac) (h : ∀ x ∈ l, x.1 ≠ a) : sumA l a = 0 := by
  induction l with
  | nil => rfl
  | cons x l ih => rw [sumA_cons, if_neg (h x (by simp)), ih fun y hy => h y (by simp [hy])]; rfl
/-- Rows that rise and have the same in them are the same. -/
theorem rise_eq {l m : List Lg} (hl : RiseLg l) (hm : RiseLg m) (h : ∀ x, x ∈ l ↔ x ∈ m) : l = m := by
  induction l generalizing m with
  | nil =>
    cases m with
    | nil => rfl
    | cons y m => have := (h y).2 (by simp); cases this
  | cons x l ih =>
    cases m with
    | nil => have := (h x).1 (by simp); cases this
    | cons y m =>
      have hl := List.pairwise_cons.1 hl
      have hm := List.pairwise_cons.1 hm
      have e : x = y := by
        by_cases e : x = y
        · exact e
        · exfalso
          have h1 : x ∈ m := by rcases List.mem_cons.1 ((h x).1 (by simp)) with h1 | h1; exact absurd h1 e; exact h1
          have h2 : y ∈ l := by rcases List.mem_cons.1 ((h y).2 (by simp)) with h1 | h1; exact absurd h1.symm e; exact h1
          exact lessB_asymm (hl.1 y h2) (hm.1 x h1)
      subst e
      rw [ih hl.2 hm.2 fun z => ?_]
      constructor
      · intro hz
        rcases List.mem_cons.1 ((h z).1 (by simp [hz])) with h1 | h1
        · subst h1; have := hl.1 z hz; rw [lessB_irrefl] at this; cases this
        · exact h1
      · intro hz
        rcases List.mem_cons.1 ((h z).2 (by simp [hz])) with h1 | h1
        · subst h1; have := hm.1 z hz; rw [lessB_irrefl] at this; cases this
        · exact h1
theorem pick_some {f : Ac → Int} {a : Ac} {x : Lg} : pick f a = some x ↔ x = (a, f a) ∧ f a ≠ 0 := by
  unfold pick
  split
  · rename_i h; constructor
    · intro h2; cases h2
    · rintro ⟨_, h2⟩; exact absurd h h2
  · rename_i h; constructor
    · intro h2; cases h2; exact ⟨rfl, h⟩
    · rintro ⟨rfl, _⟩; rfl
theorem mem_joinF {f : Ac → Int} {x : Lg} : x ∈ joinF f 108 ↔ x.1 ∈ allK ∧ x.2 = f x.1 ∧ x.2 ≠ 0 := by
  rw [joinF_pick, List.mem_filterMap]
  constructor
  · rintro ⟨a, ha, hp⟩
    obtain ⟨rfl, h0⟩ := pick_some.1 hp
    exact ⟨ha, rfl, h0⟩
  · rintro ⟨h1, h2, h3⟩
    exact ⟨x.1, h1, pick_some.2 ⟨Prod.ext rfl h2, by rw [← h2]; exact h3⟩⟩
theorem joinF_rise (f : Ac → Int) : RiseLg (joinF f 108) := by
  rw [joinF_pick]
  unfold RiseLg
  rw [List.pairwise_filterMap]
  refine allK_rise.imp fun {a b} h x hx y hy => ?_
  obtain ⟨rfl, _⟩ := pick_some.1 hx
  obtain ⟨rfl, _⟩ := pick_some.1 hy
  exact h
theorem joinF_right {f : Ac → Int} (h1 : ∀ a ∈ allK, isMoney (f a) = true) (h2 : ∀ a ∈ allK, floorB a ≤ f a) : rightLg (joinF f 108) = true := by
  refine rightB_of (fun x hx => ?_) (joinF_rise f)
  obtain ⟨ha, hx, h0⟩ := mem_joinF.1 hx
  unfold okB okL
  simp only [Bool.and_eq_true, decide_eq_true_eq]
  rw [hx]
  exact ⟨⟨⟨allK_right _ ha, h1 _ ha⟩, by rw [← hx]; exact h0⟩, h2 _ ha⟩
theorem joinF_sum {l : List Lg} (hm : mayL l = true) (a : Ac) : sumA (joinF (sumA l) 108) a = sumA l a := by
  rw [joinF_pick, sumA_pick _ _ allK_nodup]
  split
  · rfl
  · rename_i hn; rw [sumA_out l a hm hn]
/-! ### postings -/
def addLgE (l m : List Lg) : Int :=
  if allK.all (fun a => isMoney (sumA (l ++ m) a)) then (if allK.all (fun a => decide (floorB a ≤ sumA (l ++ m) a)) then 0 else 13) else 1
def postE (last : Int) (l : List Lg) (id : Int) (m : List Lg) : Int :=
  if ledgerB last l then (if id < 1 ∨ 1099511627776 < id then 3 else if id ≤ last then 18 else if checkE m = 0 then addLgE l m else checkE m) else 14
def postL (last : Int) (l : List Lg) (id : Int) (m : List Lg) : List Lg := if postE last l id m = 0 then joinF (sumA (l ++ m)) 108 else []
def postN (last : Int) (l : List Lg) (id : Int) (m : List Lg) : Int := if postE last l id m = 0 then id else 0

theorem ledger_parts {last : Int} {l : List Lg} (h : ledgerB last l = true) : 0 ≤ last ∧ rightLg l = true ∧ evenL l = true := by
  unfold ledgerB at h
  simp only [Bool.and_eq_true, decide_eq_true_eq] at h
  exact ⟨h.1.1, h.1.2, h.2⟩
theorem addE_zero {l m : List Lg} : addLgE l m = 0 ↔ (∀ a ∈ allK, isMoney (sumA (l ++ m) a) = true) ∧ ∀ a ∈ allK, floorB a ≤ sumA (l ++ m) a := by
  unfold addLgE
  by_cases h1 : allK.all (fun a => isMoney (sumA (l ++ m) a)) = true
  · rw [if_pos h1]
    rw [List.all_eq_true] at h1
    by_cases h2 : allK.all (fun a => decide (floorB a ≤ sumA (l ++ m) a)) = true
    · rw [if_pos h2]
      rw [List.all_eq_true] at h2
      exact ⟨fun _ => ⟨h1, fun a ha => by simpa using h2 a ha⟩, fun _ => rfl⟩
    · rw [if_neg h2]
      rw [List.all_eq_true] at h2
      exact ⟨fun h => (by cases h), fun h => absurd (fun a ha => by simpa using h.2 a ha) h2⟩
  · rw [if_neg h1]
    rw [List.all_eq_true] at h1
    exact ⟨fun h => (by cases h), fun h => absurd h.1 h1⟩
theorem postE_zero {last : Int} {l : List Lg} {id : Int} {m : List Lg} : postE last l id m = 0 ↔ ledgerB last l = true ∧ 1 ≤ id ∧ id ≤ 1099511627776 ∧ last < id ∧ checkE m = 0 ∧ addLgE l m = 0 := by
  unfold postE
  by_cases h1 : ledgerB last l = true
  · rw [if_pos h1]
    by_cases h2 : id < 1 ∨ 1099511627776 < id
    · rw [if_pos h2]
      exact ⟨fun h => (by cases h), fun h => (by omega)⟩
    · rw [if_neg h2]
      by_cases h3 : id ≤ last
      · rw [if_pos h3]
        exact ⟨fun h => (by cases h), fun h => (by omega)⟩
      · rw [if_neg h3]
        by_cases h4 : checkE m = 0
        · rw [if_pos h4]
          exact ⟨fun h => ⟨h1, by omega, by omega, by omega, h4, h⟩, fun h => h.2.2.2.2.2⟩
        · rw [if_neg h4]
          exact ⟨fun h => absurd h h4, fun h => absurd h.2.2.2.2.1 h4⟩
  · rw [if_neg h1]
    exact ⟨fun h => (by cases h), fun h => absurd h.1 h1⟩
/-- What is posted leaves a right ledger, and each account has what it had and what was added. -/
theorem posted {last : Int} {l : List Lg} {id : Int} {m : List Lg} (h : postE last l id m = 0) :
    postN last l id m = id ∧ ledgerB id (postL last l id m) = true ∧ mayL m = true ∧ mayL l = true ∧ ∀ a, sumA (postL last l id m) a = sumA l a + sumA m a := by
  have e1 : postL last l id m = joinF (sumA (l ++ m)) 108 := by unfold postL; rw [if_pos h]
  have e2 : postN last l id m = id := by unfold postN; rw [if_pos h]
  rw [e1]
  obtain ⟨hl, i1, i2, i3, hc, ha⟩ := postE_zero.1 h
  obtain ⟨h0, hr, he⟩ := ledger_parts hl
  obtain ⟨a1, a2⟩ := addE_zero.1 ha
  obtain ⟨_, _, hm, hme⟩ := check_zero.1 hc
  have hml := rightB_may hr
  have hmm : mayL (l ++ m) = true := by rw [may_append, hml, hm]; rfl
  have hR := joinF_right a1 a2
  have hS := joinF_sum hmm
  refine ⟨e2, ?_, hm, hml, fun a => by rw [hS, sumA_append]⟩
  unfold ledgerB
  simp only [Bool.and_eq_true, decide_eq_true_eq]
  exact ⟨⟨by omega, hR⟩, by rw [even_congr (rightB_may hR) hmm hS]; exact even_append l m he hme⟩
/-! ### totals -/
def inK (cur : Int) (kinds : List Int) (x : Lg) : Bool := decide (x.1.2.2 = cur) && kinds.contains x.1.1
def sumK (l : List Lg) (cur : Int) (kinds : List Int) : Int := ((l.filter (inK cur kinds)).map (·.2)).sum
end Go.Proofs.Ytlmnbafklefmcaa.NumK
namespace Go.Proofs.Ytlmnbafklefmcaa.NumK
set_option linter.unusedVariables false

def cashN (d : Dn) : Lg := ((2, d.1, d.2.1), d.2.2)
def varN (d : Dn) : Lg := ((5, 0, d.2.1), -d.2.2)
def legsN (l : List Dn) : List Lg := l.flatMap fun d => [cashN d, varN d]
def heldD (d : Dn) : Bool := rightA 2 d.1 d.2.1
def nlE (l : List Dn) : Int := if l.all heldD then (if netE l = 0 then joinE (legsN (netF l)) else netE l) else 3
def nlL (l : List Dn) : List Lg := if nlE l = 0 then joinL (legsN (netF l)) else []

theorem legsN_cons (d : Dn) (l : List Dn) : legsN (d :: l) = cashN d :: varN d :: legsN l := rfl
theorem legsN_snoc (l : List Dn) (d : Dn) : legsN (l ++ [d]) = legsN l ++ [cashN d, varN d] := by unfold legsN; rw [List.flatMap_append]; simp
theorem legsN_len (l : List Dn) : (legsN l).length = 2 * l.length := by
  induction l with
  | nil => rfl
  | cons d l ih => rw [legsN_cons, List.length_cons, List.length_cons, List.length_cons, ih]; omega
theorem legs_cash (l : List Dn) (w c : Int) : sumA (legsN l) (2, w, c) = grossV l (w, c) := by
  induction l with
  | nil => rfl
  | cons d l ih =>
    rw [legsN_cons, sumA_cons, sumA_cons, ih, gross_cons, if_neg (show ¬ (varN d).1 = (2, w, c) from fun h => absurd (Prod.mk.inj h).1 (by decide))]
    have e : ((cashN d).1 = (2, w, c)) ↔ isD (w, c) d = true := by
      rw [isD_iff]
      unfold cashN keyD
      constructor
      · intro h
        have h2 := (Prod.mk.inj h).2
        have h3 := Prod.mk.inj h2
        show (d.1, d.2.1) = (w, c)
        rw [h3.1, h3.2]
      · intro h
        have h3 := Prod.mk.inj h
        show (2, d.1, d.2.1) = ((2, w, c) : Ac)
        rw [h3.1, h3.2]
    by_cases h : isD (w, c) d = true
    · rw [if_pos (e.2 h), if_pos h]
      show d.2.2 + (0 + _) = _
      omega
    · rw [if_neg (fun hh => h (e.1 hh)), if_neg h]
      omega
theorem legs_other (l : List Dn) (a : Ac) (h2 : a.1 ≠ 2) (h5 : a.1 ≠ 5) : sumA (legsN l) a = 0 := by
  refine sumA_none _ _ fun x hx => ?_
  unfold legsN at hx
  obtain ⟨d, _, hd⟩ := List.mem_flatMap.1 hx
  rcases List.mem_cons.1 hd with rfl | hd
  · rintro rfl; exact h2 rfl
  · rcases List.mem_cons.1 hd with rfl | hd
    · rintro rfl; exact h5 rfl
    · cases hd
theorem net_held {l : List Dn} (h : l.all heldD = true) (y : Dn) (hy : y ∈ netF l) : heldD y = true := by
  have hm := (mem_net l y).1 hy
  by_cases hc : ∃ d ∈ l, keyD d = keyD y
  · obtain ⟨d, hd, e⟩ := hc
    have := List.all_eq_true.1 h d hd
    have e2 := Prod.mk.inj e
    unfold heldD at this ⊢
    rw [← e2.1, ← e2.2]; exact this
  · have := gross_out (l := l) (k := keyD y) fun d hd he => hc ⟨d, hd, he⟩
    exact absurd (hm.1.trans this) hm.2
theorem nl_zero {l : List Dn} (h : nlE l = 0) : l.all heldD = true ∧ netE l = 0 ∧ joinE (legsN (netF l)) = 0 := by
  unfold nlE at h
  by_cases h1 : l.all heldD = true
  · rw [if_pos h1] at h
    by_cases h2 : netE l = 0
    · rw [if_pos h2] at h; exact ⟨h1, h2, h⟩
    · rw [if_neg h2] at h; exact absurd h h2
  · rw [if_neg h1] at h; exact absurd h (by decide)
theorem nlL_ok {l : List Dn} (h : nlE l = 0) : nlL l = joinF (sumA (legsN (netF l))) 108 := by
  unfold nlL joinL; rw [if_pos h, if_pos (nl_zero h).2.2]
theorem nlL_no {l : List Dn} (h : nlE l ≠ 0) : nlL l = [] := by unfold nlL; rw [if_neg h]
def isCash (x : Lg) : Bool := decide (x.1.1 = 2)
theorem rise_cash (l : List Dn) : RiseLg ((netF l).map cashN) := by
  unfold RiseLg
  rw [List.pairwise_map]
  refine List.Pairwise.imp (fun {a b} h => ?_) (rise_net l)
  rw [lessB_iff]
  exact Or.inr ⟨rfl, h⟩
/-- Cash is paid as was netted. -/
theorem nl_cash {l : List Dn} (h : nlE l = 0) : (nlL l).filter isCash = (netF l).map cashN := by
  obtain ⟨h1, h2, h3⟩ := nl_zero h
  rw [nlL_ok h]
  refine rise_eq (List.Pairwise.filter _ (joinF_rise _)) (rise_cash l) fun x => ?_
  rw [List.mem_filter, mem_joinF, List.mem_map]
  constructor
  · rintro ⟨⟨g1, g2, g3⟩, g4⟩
    obtain ⟨⟨k, w, c⟩, n⟩ := x
    have hk : k = 2 := of_decide_eq_true g4
    subst hk
    have e : n = grossV l (w, c) := by rw [show n = _ from g2, legs_cash, gross_net]
    exact ⟨(w, c, n), (mem_net l _).2 ⟨e, g3⟩, rfl⟩
  · rintro ⟨y, hy, rfl⟩
    have hm := (mem_net l y).1 hy
    refine ⟨⟨mem_allK _ (net_held h1 y hy), ?_, hm.2⟩, rfl⟩
    show y.2.2 = sumA _ (2, y.1, y.2.1)
    rw [legs_cash, gross_net]; exact hm.1
theorem nl_kinds {l : List Dn} (h : nlE l = 0) (x : Lg) (hx : x ∈ nlL l) : x.1.1 = 2 ∨ x.1.1 = 5 := by
  rw [nlL_ok h, mem_joinF] at hx
  by_cases h2 : x.1.1 = 2
  · exact Or.inl h2
  · by_cases h5 : x.1.1 = 5
    · exact Or.inr h5
    · exact absurd (hx.2.1.trans (legs_other _ _ h2 h5)) hx.2.2
theorem even_legs (l : List Dn) : evenL (legsN l) = true := by
  induction l with
  | nil => rfl
  | cons d l ih =>
    show evenL ([cashN d, varN d] ++ legsN l) = true
    refine even_append _ _ ?_ ih
    have e : ∀ c, sumC [cashN d, varN d] c = 0 := fun c => by
      rw [sumC_cons, sumC_cons]
      show (if d.2.1 = c then d.2.2 else 0) + ((if d.2.1 = c then -d.2.2 else 0) + 0) = 0
      split <;> omega
    unfold evenL
    rw [e, e, e]; rfl
/-- They may be posted, if there are some and not too many. -/
theorem nl_check {l : List Dn} (h : nlE l = 0) (h0 : (nlL l).length ≠ 0) (h1 : (nlL l).length ≤ 64) : checkE (nlL l) = 0 := by
  have hj := (nl_zero h).2.2
  have e : nlL l = joinL (legsN (netF l)) := by unfold nlL; rw [if_pos h]
  obtain ⟨h2, h3⟩ := joined hj
  rw [e] at h0 h1 ⊢
  exact check_zero.2 ⟨h0, h1, h2, by rw [even_congr h2 (join_zero hj).1 h3]; exact even_legs _⟩
theorem nl_none {l : List Dn} (h : nlE l = 0) (h0 : nlL l = []) : netF l = [] := by
  have := nl_cash h
  rw [h0] at this
  exact List.map_eq_nil_iff.1 this.symm
theorem nl_len {l : List Dn} (h : nlE l = 0) : ((nlL l).filter isCash).length = (netF l).length := by rw [nl_cash h, List.length_map]
theorem nlL_len (l : List Dn) : (nlL l).length ≤ 108 := by
  unfold nlL; split
  · exact joinL_len _
  · exact Nat.zero_le _

/-! ### how many of them there are ahead of a place -/
theorem filter_at {α : Type} (p : α → Bool) (x0 : α) (l : List α) (i : Nat) (hi : i < l.length) (hp : p (l.getD i x0) = true) :
    ((l.take i).filter p).length < (l.filter p).length ∧ (l.filter p).getD ((l.take i).filter p).length x0 = l.getD i x0 := by
  have e : l = l.take i ++ (l.getD i x0 :: l.drop (i + 1)) := by
    have h1 : l.getD i x0 = l[i] := by simp [List.getD, hi]
    rw [h1, ← List.drop_eq_getElem_cons hi, List.take_append_drop]
  have f : l.filter p = (l.take i).filter p ++ (l.getD i x0 :: (l.drop (i + 1)).filter p) := by
    conv => lhs; rw [e]
    rw [List.filter_append, List.filter_cons, if_pos hp]
  rw [f]
  refine ⟨by rw [List.length_append, List.length_cons]; omega, ?_⟩
  simp [List.getD]
theorem filter_step {α : Type} (p : α → Bool) (x0 : α) (l : List α) (i : Nat) (hi : i < l.length) : ((l.take (i + 1)).filter p).length = ((l.take i).filter p).length + if p (l.getD i x0) then 1 else 0 := by
  have h1 : l.getD i x0 = l[i] := by simp [List.getD, hi]
  rw [List.take_succ_eq_append_getElem hi, List.filter_append, List.length_append, h1, List.filter_cons]
  split <;> simp
/-- The cash leg at a place is that of the due whose number is the count of cash legs ahead. -/
theorem nl_at {l : List Dn} (h : nlE l = 0) (i : Nat) (hi : i < (nlL l).length) (hp : ((nlL l).getD i lg0).1.1 = 2) :
    (((nlL l).take i).filter isCash).length < (netF l).length ∧ (nlL l).getD i lg0 = cashN ((netF l).getD (((nlL l).take i).filter isCash).length (0, 0, 0)) := by
  obtain ⟨g1, g2⟩ := filter_at isCash lg0 (nlL l) i hi (by unfold isCash; rw [hp]; rfl)
  rw [nl_cash h] at g1 g2
  rw [List.length_map] at g1
  refine ⟨g1, ?_⟩
  rw [← g2]
  simp [List.getD, g1]
end Go.Proofs.Ytlmnbafklefmcaa.NumK
namespace Go.Proofs.Ytlmnbafklefmcaa.NumK
open Go.RowKit

def enMb : En Mb := ⟨3, fun x => [.int .i64 x.1, .int .i64 x.2.1, .int .i64 x.2.2], fun _ => rfl, fun a v hv => by
  simp at hv; rcases hv with rfl | rfl | rfl <;> rfl, by decide⟩
def enAs : En As := ⟨4, fun x => [.int .i64 x.1, .int .i64 x.2.1, .int .i64 x.2.2.1, .int .i64 x.2.2.2], fun _ => rfl, fun a v hv => by
  simp at hv; rcases hv with rfl | rfl | rfl | rfl <;> rfl, by decide⟩
def enIn : En In := ⟨12, fun x => [.int .i64 x.1.1, .int .i64 x.1.2.1, .int .i64 x.1.2.2.1, .int .i64 x.1.2.2.2.1, .int .i64 x.1.2.2.2.2.1, .int .i64 x.1.2.2.2.2.2,
    .int .i64 x.2.1, .int .i64 x.2.2.1, .int .i64 x.2.2.2.1, .int .i64 x.2.2.2.2.1, .int .i64 x.2.2.2.2.2.1, .int .i64 x.2.2.2.2.2.2], fun _ => rfl, fun a v hv => by
  simp at hv; rcases hv with rfl | rfl | rfl | rfl | rfl | rfl | rfl | rfl | rfl | rfl | rfl | rfl <;> rfl, by decide⟩

abbrev vMb (x : Mb) : Value := .agg #[.int .i64 x.1, .int .i64 x.2.1, .int .i64 x.2.2]
abbrev vAs (x : As) : Value := .agg #[.int .i64 x.1, .int .i64 x.2.1, .int .i64 x.2.2.1, .int .i64 x.2.2.2]
abbrev vIn (x : In) : Value := .agg #[.int .i64 x.1.1, .int .i64 x.1.2.1, .int .i64 x.1.2.2.1, .int .i64 x.1.2.2.2.1, .int .i64 x.1.2.2.2.2.1, .int .i64 x.1.2.2.2.2.2,
    .int .i64 x.2.1, .int .i64 x.2.2.1, .int .i64 x.2.2.2.1, .int .i64 x.2.2.2.2.1, .int .i64 x.2.2.2.2.2.1, .int .i64 x.2.2.2.2.2.2]

/-- The cells at a place are such a one's. -/
def CMb (w : World) (b p : Nat) (x : Mb) : Prop :=
  w.cell? ⟨b, p, none⟩ = some (.int .i64 x.1) ∧ w.cell? ⟨b, p + 1, none⟩ = some (.int .i64 x.2.1) ∧ w.cell? ⟨b, p + 2, none⟩ = some (.int .i64 x.2.2)
def CAs (w : World) (b p : Nat) (x : As) : Prop :=
  w.cell? ⟨b, p, none⟩ = some (.int .i64 x.1) ∧ w.cell? ⟨b, p + 1, none⟩ = some (.int .i64 x.2.1) ∧ w.cell? ⟨b, p + 2, none⟩ = some (.int .i64 x.2.2.1) ∧ w.cell? ⟨b, p + 3, none⟩ = some (.int .i64 x.2.2.2)
def CIn (w : World) (b p : Nat) (x : In) : Prop :=
  w.cell? ⟨b, p, none⟩ = some (.int .i64 x.1.1) ∧ w.cell? ⟨b, p + 1, none⟩ = some (.int .i64 x.1.2.1) ∧ w.cell? ⟨b, p + 2, none⟩ = some (.int .i64 x.1.2.2.1) ∧ w.cell? ⟨b, p + 3, none⟩ = some (.int .i64 x.1.2.2.2.1)
  ∧ w.cell? ⟨b, p + 4, none⟩ = some (.int .i64 x.1.2.2.2.2.1) ∧ w.cell? ⟨b, p + 5, none⟩ = some (.int .i64 x.1.2.2.2.2.2) ∧ w.cell? ⟨b, p + 6, none⟩ = some (.int .i64 x.2.1) ∧ w.cell? ⟨b, p + 7, none⟩ = some (.int .i64 x.2.2.1)
  ∧ w.cell? ⟨b, p + 8, none⟩ = some (.int .i64 x.2.2.2.1) ∧ w.cell? ⟨b, p + 9, none⟩ = some (.int .i64 x.2.2.2.2.1) ∧ w.cell? ⟨b, p + 10, none⟩ = some (.int .i64 x.2.2.2.2.2.1) ∧ w.cell? ⟨b, p + 11, none⟩ = some (.int .i64 x.2.2.2.2.2.2)

theorem CMb.keep {w w' : World} {b p : Nat} {x : Mb} (h : CMb w b p x) (g : Grew w w') (hb : b < w.heap.size) : CMb w' b p x :=
  ⟨(grew_cell g (p := ⟨b, _, none⟩) hb).trans h.1, (grew_cell g (p := ⟨b, _, none⟩) hb).trans h.2.1, (grew_cell g (p := ⟨b, _, none⟩) hb).trans h.2.2⟩
theorem CAs.keep {w w' : World} {b p : Nat} {x : As} (h : CAs w b p x) (g : Grew w w') (hb : b < w.heap.size) : CAs w' b p x :=
  ⟨(grew_cell g (p := ⟨b, _, none⟩) hb).trans h.1, (grew_cell g (p := ⟨b, _, none⟩) hb).trans h.2.1, (grew_cell g (p := ⟨b, _, none⟩) hb).trans h.2.2.1, (grew_cell g (p := ⟨b, _, none⟩) hb).trans h.2.2.2⟩
theorem CIn.keep {w w' : World} {b p : Nat} {x : In} (h : CIn w b p x) (g : Grew w w') (hb : b < w.heap.size) : CIn w' b p x := by
  obtain ⟨h0, h1, h2, h3, h4, h5, h6, h7, h8, h9, h10, h11⟩ := h
  exact ⟨(grew_cell g (p := ⟨b, _, none⟩) hb).trans h0, (grew_cell g (p := ⟨b, _, none⟩) hb).trans h1, (grew_cell g (p := ⟨b, _, none⟩) hb).trans h2, (grew_cell g (p := ⟨b, _, none⟩) hb).trans h3,
    (grew_cell g (p := ⟨b, _, none⟩) hb).trans h4, (grew_cell g (p := ⟨b, _, none⟩) hb).trans h5, (grew_cell g (p := ⟨b, _, none⟩) hb).trans h6, (grew_cell g (p := ⟨b, _, none⟩) hb).trans h7,
    (grew_cell g (p := ⟨b, _, none⟩) hb).trans h8, (grew_cell g (p := ⟨b, _, none⟩) hb).trans h9, (grew_cell g (p := ⟨b, _, none⟩) hb).trans h10, (grew_cell g (p := ⟨b, _, none⟩) hb).trans h11⟩

theorem RowE.as {w : World} {n : Nat} {l : List As} {A : Option Addr} (h : RowE enAs w A n l) {j : Nat} (hj : j < n) : ∃ b o, A = some ⟨b, o, none⟩ ∧ b < w.heap.size ∧ ∀ j, j < n → CAs w b (o + j * 4) (l.getD j as0) := by
  have hl := h.len
  obtain ⟨b, o, e, hb, hc⟩ := h.at (by omega)
  refine ⟨b, o, e, hb, fun j hj => ?_⟩
  have hj' : j < l.length := by omega
  rw [getD_at l as0 j hj']
  exact ⟨hc j hj' 0 (by decide), hc j hj' 1 (by decide), hc j hj' 2 (by decide), hc j hj' 3 (by decide)⟩
theorem RowE.in {w : World} {n : Nat} {l : List In} {A : Option Addr} (h : RowE enIn w A n l) {j : Nat} (hj : j < n) : ∃ b o, A = some ⟨b, o, none⟩ ∧ b < w.heap.size ∧ ∀ j, j < n → CIn w b (o + j * 12) (l.getD j in0) := by
  have hl := h.len
  obtain ⟨b, o, e, hb, hc⟩ := h.at (by omega)
  refine ⟨b, o, e, hb, fun j hj => ?_⟩
  have hj' : j < l.length := by omega
  rw [getD_at l in0 j hj']
  exact ⟨hc j hj' 0 (by decide), hc j hj' 1 (by decide), hc j hj' 2 (by decide), hc j hj' 3 (by decide), hc j hj' 4 (by decide), hc j hj' 5 (by decide), hc j hj' 6 (by decide), hc j hj' 7 (by decide), hc j hj' 8 (by decide), hc j hj' 9 (by decide), hc j hj' 10 (by decide), hc j hj' 11 (by decide)⟩

/-! ### numbers -/
end Go.Proofs.Ytlmnbafklefmcaa.NumK
namespace Go.Proofs.Ytlmnbafklefmcaa.NumK
open Go.RowKit


end Go.Proofs.Ytlmnbafklefmcaa.NumK
namespace Go.Proofs.Ytlmnbafklefmcaa.NumK
open Go.RowKit
set_option linter.unusedVariables false

end Go.Proofs.Ytlmnbafklefmcaa.NumK
namespace Go.Proofs.Ytlmnbafklefmcaa.NumK
open Go.RowKit
set_option linter.unusedVariables false

end Go.Proofs.Ytlmnbafklefmcaa.NumK
namespace Go.Proofs.Ytlmnbafklefmcaa.NumK
open Go.RowKit
set_option linter.unusedVariables false

end Go.Proofs.Ytlmnbafklefmcaa.NumK
namespace Go.Proofs.Ytlmnbafklefmcaa.NumK
open Go.RowKit

/-! ### rolls -/
abbrev rlV (A1 A2 A3 : Option Addr) (n1 n2 n3 c1 c2 c3 : Nat) : Value := .agg #[.slice A1 n1 c1, .slice A2 n2 c2, .slice A3 n3 c3]
/-- A roll's rows, wherever they lie. -/
structure Rows3 (w : World) (r : Rl) (A1 A2 A3 : Option Addr) (n1 n2 n3 : Nat) : Prop where
  m : RowE enMb w A1 n1 r.1
  i : RowE enIn w A2 n2 r.2.1
  h : RowE enAs w A3 n3 r.2.2
theorem Rows3.keep {w w' : World} {r : Rl} {A1 A2 A3 : Option Addr} {n1 n2 n3 : Nat} (h : Rows3 w r A1 A2 A3 n1 n2 n3) (g : Grew w w') : Rows3 w' r A1 A2 A3 n1 n2 n3 := ⟨h.m.keep g, h.i.keep g, h.h.keep g⟩

end Go.Proofs.Ytlmnbafklefmcaa.NumK
namespace Go.Proofs.Ytlmnbafklefmcaa.NumK
open Go.RowKit
set_option linter.unusedVariables false

def rightR (r : Rl) : Bool := rightL okMb noMb mb0 r.1 && (rightL okIn noIn in0 r.2.1 && rightL okAs noAs as0 r.2.2)

def chkV (r : Rl) : Int := if rightR r = true then 0 else 14
section
variable {w w' : World} {base : Nat} {r : Rl} {A1 A2 A3 : Option Addr} {c1 c2 c3 : Nat}
end
/-- What of a roll's slices is known whoever owns them. -/
structure In3 (w : World) (r : Rl) (A1 A2 A3 : Option Addr) (n1 n2 n3 c1 c2 c3 : Nat) : Prop where
  rows : Rows3 w r A1 A2 A3 n1 n2 n3
  k1 : A1 = none → c1 = 0
  k2 : A2 = none → c2 = 0
  k3 : A3 = none → c3 = 0
  l1 : n1 ≤ c1 ∧ c1 ≤ 9223372036854775807
  l2 : n2 ≤ c2 ∧ c2 ≤ 9223372036854775807
  l3 : n3 ≤ c3 ∧ c3 ≤ 9223372036854775807
theorem In3.keep {w w' : World} {r : Rl} {A1 A2 A3 : Option Addr} {n1 n2 n3 c1 c2 c3 : Nat} (h : In3 w r A1 A2 A3 n1 n2 n3 c1 c2 c3) (g : Grew w w') : In3 w' r A1 A2 A3 n1 n2 n3 c1 c2 c3 := ⟨h.rows.keep g, h.k1, h.k2, h.k3, h.l1, h.l2, h.l3⟩
end Go.Proofs.Ytlmnbafklefmcaa.NumK
namespace Go.Proofs.Ytlmnbafklefmcaa.NumK
open Go.RowKit
set_option linter.unusedVariables false

def qsOK (l : List Po) : Bool := l.all fun p => okQ p.2.2.1
def lossOK (r : Rl) (who cur : Int) (l : List Po) : Bool := (List.range 6).all fun j => isMoney (lossV r who cur l j)
def lossE (r : Rl) (who cur : Int) (l : List Po) : Int := if rightR r = true then (if qsOK l = true then (if lossOK r who cur l = true then 0 else 1) else 3) else 14
/-- What a scenario tells: nothing beside an error. -/
def lossA (r : Rl) (who cur : Int) (l : List Po) (j : Nat) : Int := if lossE r who cur l = 0 then lossV r who cur l j else 0
def margE (r : Rl) (who cur : Int) (l : List Po) : Int := if lossE r who cur l = 0 then (if isMoney (margV r who cur l) = true then 0 else 1) else lossE r who cur l
def margN (r : Rl) (who cur : Int) (l : List Po) : Int := if margE r who cur l = 0 then margV r who cur l else 0

/-! ### the laws -/
end Go.Proofs.Ytlmnbafklefmcaa.NumK
namespace Go.Proofs.Ytlmnbafklefmcaa.NumK
open Go.RowKit
set_option linter.unusedVariables false

def assetOf (r : Rl) (x : Pg) : As := findL noAs as0 r.2.2 x.2.1
def hasA (r : Rl) (x : Pg) : Bool := hasL noAs r.2.2 x.2.1
/-- Does a pledge count? -/
def cntV (r : Rl) (who cur : Int) (x : Pg) : Bool := hasA r x && (decide (x.1 = who) && decide ((assetOf r x).2.1 = cur))
def valP (r : Rl) (x : Pg) : Int := valueV (assetOf r x) x.2.2
def covG (r : Rl) (who cur : Int) (x : Pg) : Int := if cntV r who cur x = true then valP r x else 0
def covS (r : Rl) (who cur : Int) (l : List Pg) : Int := (l.map (covG r who cur)).sum
def valsOK (r : Rl) (who cur : Int) (l : List Pg) : Bool := l.all fun x => !(cntV r who cur x) || decide (valP r x ≤ 4611686018427387904)
/-- Beside a ledger (ok: is it right?) in which the cash is b. -/
def covE (ok : Bool) (b : Int) (r : Rl) (who cur : Int) (l : List Pg) : Int :=
  if ok = true ∧ rightR r = true ∧ rightPg l = true then (if valsOK r who cur l = true ∧ isMoney (b + covS r who cur l) = true then 0 else 1) else 14
def covN (ok : Bool) (b : Int) (r : Rl) (who cur : Int) (l : List Pg) : Int := if covE ok b r who cur l = 0 then b + covS r who cur l else 0
/-! ### one is put in, or taken out -/
def covO (r : Rl) (who cur : Int) (o : Option Pg) : Int := match o with | some x => covG r who cur x | none => 0
/-! ### what a member lacks -/
/-- Beside a cover (its error, its number), a book (ok: is it right?) and a margin (its error, its number). -/
def shortE (ce c : Int) (ok : Bool) (me m : Int) : Int := if ce = 0 then (if ok = true then (if me = 0 then (if 4611686018427387904 < m - c then 1 else 0) else me) else 14) else ce
def shortN (ce c : Int) (ok : Bool) (me m : Int) : Int := if shortE ce c ok me m = 0 then (if m - c < 0 then 0 else m - c) else 0
end Go.Proofs.Ytlmnbafklefmcaa.NumK
namespace Go.Proofs.Ytlmnbafklefmcaa.NumK
open Go.RowKit
set_option linter.unusedVariables false

def cmpI (x y : Int) : Int := if x < y then -1 else if x > y then 1 else 0
theorem isNaN_any (x : Int) (w : World) : Calls Try.prog 63 #[.int .i64 x] w fun e w' => e = .returned (.bool false) ∧ w = w' := by
  go_enter Try.func63, Try.ntmps63
  go_wp2
  go_ret
  exact ⟨rfl, rfl⟩
theorem compare_any (x y : Int) (w : World) : Calls Try.prog 45 #[.int .i64 x, .int .i64 y] w fun e w' => e = .returned (.int .i64 (cmpI x y)) ∧ w = w' := by
  have C1 := fun w => isNaN_any x w
  have C2 := fun w => isNaN_any y w
  have HC : Hid (cmpI x y = if x < y then -1 else if x > y then 1 else 0) := rfl
  generalize cmpI x y = R at *
  by_cases h1 : x < y
  · have HR : Hid (R = -1) := by show _ = _; rw [HC.out, if_pos h1]
    clear HC
    go_enter Try.func45, Try.ntmps45
    go_wp2_with (first
      | (go_at_call 63; ((with_reducible refine (C1 _).mono ?_); rintro e w1 ⟨rfl, rfl⟩))
      | (go_at_call 63; ((with_reducible refine (C2 _).mono ?_); rintro e w1 ⟨rfl, rfl⟩)))
    go_ret
    exact ⟨ret_i HR.out.symm, rfl⟩
  · by_cases h2 : x > y
    · have HR : Hid (R = 1) := by show _ = _; rw [HC.out, if_neg h1, if_pos h2]
      clear HC
      go_enter Try.func45, Try.ntmps45
      go_wp2_with (first
        | (go_at_call 63; ((with_reducible refine (C1 _).mono ?_); rintro e w1 ⟨rfl, rfl⟩))
        | (go_at_call 63; ((with_reducible refine (C2 _).mono ?_); rintro e w1 ⟨rfl, rfl⟩)))
      go_ret
      exact ⟨ret_i HR.out.symm, rfl⟩
    · have HR : Hid (R = 0) := by show _ = _; rw [HC.out, if_neg h1, if_neg h2]
      clear HC
      go_enter Try.func45, Try.ntmps45
      go_wp2_with (first
        | (go_at_call 63; ((with_reducible refine (C1 _).mono ?_); rintro e w1 ⟨rfl, rfl⟩))
        | (go_at_call 63; ((with_reducible refine (C2 _).mono ?_); rintro e w1 ⟨rfl, rfl⟩)))
      go_ret
      exact ⟨ret_i HR.out.symm, rfl⟩
theorem RowE.one {α : Type} (E : En α) (w : World) (x : α) (t : TypeId) (N : Nat) (hN : N = w.heap.size) : RowE E (w.alloc (.cells (E.cs x).toArray t)) (some ⟨N, 0, none⟩) 1 [x] := by
  subst hN
  refine ⟨rfl, fun _ => ⟨_, _, rfl, by simp, fun j hj => ⟨_, rfl, fun i hi => ?_⟩⟩⟩
  have hj : j < 1 := hj
  obtain rfl : j = 0 := by omega
  rw [Nat.zero_mul, Nat.zero_add, World.cell?_alloc_at _ _ _ _ rfl]
  simp
theorem RowE.dropO {α : Type} {E : En α} {w : World} {ad : Option Addr} {n k : Nat} {l : List α} (h : RowE E w ad n l) (hk : k ≤ n) : RowE E w (Option.map (fun x => x.add (k * E.size)) ad) (n - k) (l.drop k) := by
  cases ad with
  | none =>
    have h0 : n = 0 := by
      rcases Nat.eq_zero_or_pos n with h1 | h1
      · exact h1
      · obtain ⟨b, o, e, _⟩ := h.2 h1; cases e
    subst h0
    have hl := List.eq_nil_of_length_eq_zero h.len
    rw [hl, List.drop_nil, Nat.zero_sub]
    exact RowE.nil _ _ _
  | some a => exact Row.drop h hk
end Go.Proofs.Ytlmnbafklefmcaa.NumK
namespace Go.Proofs.Ytlmnbafklefmcaa.NumK
open Go.RowKit
set_option linter.unusedVariables false

def enPo : En Po := ⟨4, fun x => [.int .i64 x.1, .int .i64 x.2.1, .int .i64 x.2.2.1, .int .i64 x.2.2.2], fun _ => rfl, fun a v hv => by
  simp at hv; rcases hv with rfl | rfl | rfl | rfl <;> rfl, by decide⟩
def enTr : En Tr := ⟨7, fun t => [.int .i64 t.1.1, .int .i64 t.1.2.1, .int .i64 t.1.2.2.1, .int .i64 t.1.2.2.2.1, .int .i64 t.1.2.2.2.2.1, .int .i64 t.1.2.2.2.2.2, .bool t.2], fun _ => rfl, fun a v hv => by
  simp at hv; rcases hv with rfl | rfl | rfl | rfl | rfl | rfl | rfl <;> rfl, by decide⟩
abbrev vPo (x : Po) : Value := .agg #[.int .i64 x.1, .int .i64 x.2.1, .int .i64 x.2.2.1, .int .i64 x.2.2.2]
abbrev vTr (t : Tr) : Value := .agg #[.int .i64 t.1.1, .int .i64 t.1.2.1, .int .i64 t.1.2.2.1, .int .i64 t.1.2.2.2.1, .int .i64 t.1.2.2.2.2.1, .int .i64 t.1.2.2.2.2.2, .bool t.2]
def CPo (w : World) (b p : Nat) (x : Po) : Prop :=
  w.cell? ⟨b, p, none⟩ = some (.int .i64 x.1) ∧ w.cell? ⟨b, p + 1, none⟩ = some (.int .i64 x.2.1) ∧ w.cell? ⟨b, p + 2, none⟩ = some (.int .i64 x.2.2.1) ∧ w.cell? ⟨b, p + 3, none⟩ = some (.int .i64 x.2.2.2)
theorem CPo.keep {w w' : World} {b p : Nat} {x : Po} (h : CPo w b p x) (g : Grew w w') (hb : b < w.heap.size) : CPo w' b p x :=
  ⟨(grew_cell g (p := ⟨b, _, none⟩) hb).trans h.1, (grew_cell g (p := ⟨b, _, none⟩) hb).trans h.2.1, (grew_cell g (p := ⟨b, _, none⟩) hb).trans h.2.2.1, (grew_cell g (p := ⟨b, _, none⟩) hb).trans h.2.2.2⟩
def CTr (w : World) (b p : Nat) (t : Tr) : Prop :=
  w.cell? ⟨b, p, none⟩ = some (.int .i64 t.1.1) ∧ w.cell? ⟨b, p + 1, none⟩ = some (.int .i64 t.1.2.1) ∧ w.cell? ⟨b, p + 2, none⟩ = some (.int .i64 t.1.2.2.1) ∧ w.cell? ⟨b, p + 3, none⟩ = some (.int .i64 t.1.2.2.2.1)
  ∧ w.cell? ⟨b, p + 4, none⟩ = some (.int .i64 t.1.2.2.2.2.1) ∧ w.cell? ⟨b, p + 5, none⟩ = some (.int .i64 t.1.2.2.2.2.2) ∧ w.cell? ⟨b, p + 6, none⟩ = some (.bool t.2)
theorem CTr.keep {w w' : World} {b p : Nat} {t : Tr} (h : CTr w b p t) (g : Grew w w') (hb : b < w.heap.size) : CTr w' b p t := by
  obtain ⟨h0, h1, h2, h3, h4, h5, h6⟩ := h
  exact ⟨(grew_cell g (p := ⟨b, _, none⟩) hb).trans h0, (grew_cell g (p := ⟨b, _, none⟩) hb).trans h1, (grew_cell g (p := ⟨b, _, none⟩) hb).trans h2, (grew_cell g (p := ⟨b, _, none⟩) hb).trans h3,
    (grew_cell g (p := ⟨b, _, none⟩) hb).trans h4, (grew_cell g (p := ⟨b, _, none⟩) hb).trans h5, (grew_cell g (p := ⟨b, _, none⟩) hb).trans h6⟩
theorem RowE.tr {w : World} {n : Nat} {l : List Tr} {A : Option Addr} (h : RowE enTr w A n l) {j : Nat} (hj : j < n) : ∃ b o, A = some ⟨b, o, none⟩ ∧ b < w.heap.size ∧ ∀ j, j < n → CTr w b (o + j * 7) (l.getD j tr0) := by
  have hl := h.len
  obtain ⟨b, o, e, hb, hc⟩ := h.at (by omega)
  refine ⟨b, o, e, hb, fun j hj => ?_⟩
  have hj' : j < l.length := by omega
  rw [getD_at l tr0 j hj']
  exact ⟨hc j hj' 0 (by decide), hc j hj' 1 (by decide), hc j hj' 2 (by decide), hc j hj' 3 (by decide), hc j hj' 4 (by decide), hc j hj' 5 (by decide), hc j hj' 6 (by decide)⟩

/-- A slice literal is a row of the call's own. -/
theorem OwnE.lit {α : Type} (E : En α) (w : World) (l : List α) (t : TypeId) (cs : Array Value) (N : Nat) (hN : N = w.heap.size) (hc : cs.toList = l.flatMap E.cs) (hm : l.length * E.size ≤ maxLen) :
    OwnE E (w.alloc (.cells cs t)) w.heap.size t (.slice (some ⟨N, 0, none⟩) l.length l.length) l := by
  subst hN
  have hs : cs.size = l.length * E.size := by rw [← Array.length_toList, hc, E.flat_len]
  have hp : l.length ≤ l.length * E.size := Nat.le_mul_of_pos_right _ E.pos
  exact ⟨by rw [E.flat_len], .inr ⟨w.heap.size, l.length, cs, rfl, Nat.le_refl _, heap_alloc_new w _, Nat.le_refl _, by omega, hs, by rw [hc, List.take_of_length_le (by rw [E.flat_len]; exact Nat.le_refl _)]⟩⟩

end Go.Proofs.Ytlmnbafklefmcaa.NumK
namespace Go.Proofs.Ytlmnbafklefmcaa.NumK
open Go.RowKit
set_option linter.unusedVariables false

abbrev vKy (k : Ky) : Value := .agg #[.int .i64 k.1, .int .i64 k.2]

/-- Neither quantity nor cost. -/
def noneP (q c : Int) : Bool := decide (q = 0) && decide (c = 0)
end Go.Proofs.Ytlmnbafklefmcaa.NumK
namespace Go.Proofs.Ytlmnbafklefmcaa.NumK
open Go.RowKit
set_option linter.unusedVariables false


end Go.Proofs.Ytlmnbafklefmcaa.NumK
namespace Go.Proofs.Ytlmnbafklefmcaa.NumK
open Go.RowKit
set_option linter.unusedVariables false

end Go.Proofs.Ytlmnbafklefmcaa.NumK
namespace Go.Proofs.Ytlmnbafklefmcaa.NumK
open Go.RowKit
set_option linter.unusedVariables false

end Go.Proofs.Ytlmnbafklefmcaa.NumK
namespace Go.Proofs.Ytlmnbafklefmcaa.NumK
open Go.RowKit
set_option linter.unusedVariables false

def AtQ (l : List Po) (w : World) (e : Ending) (w' : World) : Prop := ∃ r : Int, (0 ≤ r ↔ qsOK l = false) ∧ -1 ≤ r ∧ e = .returned (.int .i64 r) ∧ Grew w w'

end Go.Proofs.Ytlmnbafklefmcaa.NumK
namespace Go.Proofs.Ytlmnbafklefmcaa.NumK
open Go.RowKit

def wqV (x n : Int) : Int := if 0 < n then capV (x / n) else 0
def wqR (x n : Int) : Int := if 0 < n ∧ isMoney (x / n) = true then x % n else 0
def wqE (x n : Int) : Int := if 0 < n then capE (x / n) else 2

end Go.Proofs.Ytlmnbafklefmcaa.NumK
namespace Go.Proofs.Ytlmnbafklefmcaa.NumK
open Go.RowKit

def wqB (x n : Int) : Bool := decide (0 < n) && isMoney (x / n)
end Go.Proofs.Ytlmnbafklefmcaa.NumK
namespace Go.Proofs.Ytlmnbafklefmcaa.NumK
open Go.RowKit

end Go.Proofs.Ytlmnbafklefmcaa.NumK
namespace Go.Proofs.Ytlmnbafklefmcaa.NumK
open Go.RowKit
set_option linter.unusedVariables false

def enPg : En Pg := ⟨3, fun x => [.int .i64 x.1, .int .i64 x.2.1, .int .i64 x.2.2], fun _ => rfl, fun a v hv => by
  simp at hv; rcases hv with rfl | rfl | rfl <;> rfl, by decide⟩
abbrev vPg (x : Pg) : Value := .agg #[.int .i64 x.1, .int .i64 x.2.1, .int .i64 x.2.2]
/-- The cells at a place are such a one's. -/
def CPg (w : World) (b p : Nat) (x : Pg) : Prop :=
  w.cell? ⟨b, p, none⟩ = some (.int .i64 x.1) ∧ w.cell? ⟨b, p + 1, none⟩ = some (.int .i64 x.2.1) ∧ w.cell? ⟨b, p + 2, none⟩ = some (.int .i64 x.2.2)
theorem CPg.keep {w w' : World} {b p : Nat} {x : Pg} (h : CPg w b p x) (g : Grew w w') (hb : b < w.heap.size) : CPg w' b p x :=
  ⟨(grew_cell g (p := ⟨b, _, none⟩) hb).trans h.1, (grew_cell g (p := ⟨b, _, none⟩) hb).trans h.2.1, (grew_cell g (p := ⟨b, _, none⟩) hb).trans h.2.2⟩
/-! ### numbers -/
/-! ### their order -/
def orI (x y : Int) : Int := if x ≠ 0 then x else y
theorem or_any (A : Option Addr) (c : Nat) (x y : Int) (w : World) (h : Ints w A 2 [x, y]) :
    Calls Try.prog 44 #[.slice A 2 c] w fun e w' => e = .returned (.int .i64 (orI x y)) ∧ w = w' := by
  have HV : Hid (orI x y = if x ≠ 0 then x else y) := rfl
  generalize orI x y = V at *
  obtain ⟨b, o, rfl, hb, hc⟩ := h.2 (by decide)
  have HA0 : Hid (w.cell? ⟨b, o, none⟩ = some (.int .i64 x)) := hc 0 (by decide)
  have HA1 : Hid (w.cell? ⟨b, o + 1, none⟩ = some (.int .i64 y)) := hc 1 (by decide)
  clear hc h
  go_enter Try.func44, Try.ntmps44
  go_wp2
  go_loop [5, 8] (fun v5 v8 => ∃ j : Nat, v8 = .int .i64 j ∧ Hid (j = 0 ∨ (j = 1 ∧ x = 0) ∨ (j = 2 ∧ x = 0 ∧ y = 0))) (fun _ v8 => 2 - (intOf v8).toNat)
  case atStart => exact ⟨0, rfl, .inl rfl⟩
  case round =>
    obtain ⟨j, rfl, HS⟩ := hrel
    rcases HS.out with rfl | ⟨rfl, rfl⟩ | ⟨rfl, rfl, rfl⟩
    · have a0 := HA0.out
      clear HS HA0 HA1
      by_cases h1 : x = 0
      · subst h1
        clear HV
        go_wp2
        go_round
        case rel => exact ⟨1, by go_num, .inr (.inl ⟨rfl, by trivial⟩)⟩
        case measure => simp only [intOf]; omega
      · have HF : Hid (V = x) := by show _ = _; rw [HV.out, if_pos h1]
        have d1 : (x == 0) = false := by simpa using h1
        clear HV h1
        go_wp2
        go_ret
        exact ⟨ret_i HF.out.symm, by first | rfl | trivial⟩
    · have a1 := HA1.out
      have HF : Hid (V = y) := by show _ = _; rw [HV.out, if_neg (by simp)]
      clear HS HA0 HA1 HV
      by_cases h1 : y = 0
      · subst h1
        clear HF
        go_wp2
        go_round
        case rel => exact ⟨2, by go_num, .inr (.inr ⟨rfl, by trivial⟩)⟩
        case measure => simp only [intOf]; omega
      · have d1 : (y == 0) = false := by simpa using h1
        clear h1
        go_wp2
        go_ret
        exact ⟨ret_i HF.out.symm, by first | rfl | trivial⟩
    · have HF : Hid (V = 0) := by show _ = _; rw [HV.out, if_neg (by simp)]
      clear HS HA0 HA1 HV
      go_wp2
      go_ret
      exact ⟨ret_i HF.out.symm, by first | rfl | trivial⟩

/-- As Who and Asset say. -/
def ordP (x y : Pg) : Int := orI (cmpI x.1 y.1) (cmpI x.2.1 y.2.1)
end Go.Proofs.Ytlmnbafklefmcaa.NumK
namespace Go.Proofs.Ytlmnbafklefmcaa.NumK
open Go.RowKit
set_option linter.unusedVariables false

def chkP (l : List Pg) : Int := if rightPg l = true then 0 else 14
end Go.Proofs.Ytlmnbafklefmcaa.NumK
