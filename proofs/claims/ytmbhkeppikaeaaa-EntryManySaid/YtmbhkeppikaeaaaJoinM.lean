/- What legs are joined: the mathematics. -/
import Derived.Test.YtmbhkeppikaeaaaLegB
import Derived.Test.YtmbhkeppikaeaaaWides
namespace Go.Proofs.Ytmbhkeppikaeaaa.NumK
open Go.RowKit

/-- What stands on an account. -/
def sumA (l : List Lg) (a : Ac) : Int := ((l.filter fun x => decide (x.1 = a)).map (·.2)).sum
def ac0 : Ac := (0, 0, 0)
def joinF (f : Ac → Int) (k : Nat) : List Lg := (allK.take k).filterMap fun a => if f a = 0 then none else some (a, f a)
def joinE (l : List Lg) : Int := if mayL l then (if allK.all (fun a => isMoney (sumA l a)) then 0 else 1) else 3
def joinL (l : List Lg) : List Lg := if joinE l = 0 then joinF (sumA l) 108 else []

theorem sumA_nil (a : Ac) : sumA [] a = 0 := rfl
theorem sumA_append (l m : List Lg) (a : Ac) : sumA (l ++ m) a = sumA l a + sumA m a := by
  unfold sumA
  rw [List.filter_append, List.map_append, List.sum_append]
theorem sumA_one (x : Lg) (a : Ac) : sumA [x] a = if x.1 = a then x.2 else 0 := by
  unfold sumA
  by_cases h : x.1 = a
  · simp [h]
  · simp [h]
theorem sumA_cons (x : Lg) (l : List Lg) (a : Ac) : sumA (x :: l) a = (if x.1 = a then x.2 else 0) + sumA l a := by
  rw [show x :: l = [x] ++ l from rfl, sumA_append, sumA_one]
theorem sumA_snoc (l : List Lg) (j : Nat) (h : j < l.length) (a : Ac) : sumA (l.take (j + 1)) a = sumA (l.take j) a + if (l.getD j lg0).1 = a then (l.getD j lg0).2 else 0 := by
  rw [take_snoc l j lg0 h, sumA_append, sumA_one]
theorem okL_parts {x : Lg} (h : okL x = true) : rightA x.1.1 x.1.2.1 x.1.2.2 = true ∧ -4611686018427387904 ≤ x.2 ∧ x.2 ≤ 4611686018427387904 := by
  unfold okL at h
  simp only [Bool.and_eq_true] at h
  exact ⟨h.1, (isMoney_iff _).1 h.2⟩
theorem may_cons {x : Lg} {l : List Lg} : mayL (x :: l) = true ↔ okL x = true ∧ mayL l = true := by
  unfold mayL; simp
theorem may_take' (l : List Lg) (j : Nat) (h : mayL l = true) : mayL (l.take j) = true := by
  unfold mayL at *
  rw [List.all_eq_true] at *
  exact fun x hx => h x (List.mem_of_mem_take hx)
theorem may_at' (l : List Lg) (j : Nat) (hj : j < l.length) (h : mayL l = true) : okL (l.getD j lg0) = true := by
  unfold mayL at h
  rw [List.all_eq_true] at h
  exact h _ (by rw [show l.getD j lg0 = l[j] by simp [List.getD, hj]]; exact List.getElem_mem hj)
theorem sumA_bd (l : List Lg) (a : Ac) (h : mayL l = true) : -(l.length * 4611686018427387904) ≤ sumA l a ∧ sumA l a ≤ l.length * 4611686018427387904 := by
  induction l with
  | nil => simp [sumA_nil]
  | cons x l ih =>
    rw [may_cons] at h
    have h1 := ih h.2
    have h2 := (okL_parts h.1).2
    rw [sumA_cons, List.length_cons]
    split <;> omega
theorem sumA_wide (l : List Lg) (a : Ac) (h : mayL l = true) (hn : l.length ≤ 1000000) : isWide (sumA l a) = true := by
  have := sumA_bd l a h
  rw [isWide_iff]; omega

theorem allK_getD (k : Nat) (h : k < 108) : allK.getD k ac0 ∈ allK := by
  have h' : k < allK.length := by rw [allK_len]; exact h
  rw [show allK.getD k ac0 = allK[k] by simp [List.getD, h']]
  exact List.getElem_mem h'
theorem joinF_succ (f : Ac → Int) (k : Nat) (h : k < 108) : joinF f (k + 1) = joinF f k ++ if f (allK.getD k ac0) = 0 then [] else [(allK.getD k ac0, f (allK.getD k ac0))] := by
  unfold joinF
  rw [take_snoc allK k ac0 (by rw [allK_len]; exact h), List.filterMap_append]
  congr 1
  by_cases h0 : f (allK.getD k ac0) = 0
  · rw [List.filterMap_cons, if_pos h0, if_pos h0]; rfl
  · rw [List.filterMap_cons, if_neg h0, if_neg h0]; rfl
theorem joinF_len (f : Ac → Int) (k : Nat) : (joinF f k).length ≤ 108 := by
  unfold joinF
  refine Nat.le_trans (List.length_filterMap_le _ _) ?_
  rw [List.length_take, allK_len]; omega
theorem joinL_len (l : List Lg) : (joinL l).length ≤ 108 := by
  unfold joinL
  split
  · exact joinF_len _ _
  · simp
theorem join_no {l : List Lg} (hm : mayL l = true) (k : Nat) (hk : k < 108) (h : isMoney (sumA l (allK.getD k ac0)) = false) : joinE l = 1 := by
  unfold joinE
  rw [if_pos hm, if_neg]
  intro h2
  rw [List.all_eq_true] at h2
  have := h2 _ (allK_getD k hk)
  simp only [h] at this
  cases this
theorem join_yes {l : List Lg} (hm : mayL l = true) (h : ∀ k, k < 108 → isMoney (sumA l (allK.getD k ac0)) = true) : joinE l = 0 := by
  unfold joinE
  rw [if_pos hm, if_pos]
  rw [List.all_eq_true]
  intro a ha
  obtain ⟨i, hi, rfl⟩ := List.getElem_of_mem ha
  have := h i (by rw [allK_len] at hi; exact hi)
  rwa [show allK.getD i ac0 = allK[i] by simp [List.getD, hi]] at this
end Go.Proofs.Ytmbhkeppikaeaaa.NumK
