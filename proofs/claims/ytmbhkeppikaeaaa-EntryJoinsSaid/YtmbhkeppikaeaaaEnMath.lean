/- What the laws of postings say of lists. -/
import Derived.Test.YtmbhkeppikaeaaaCheck
namespace Go.Proofs.Ytmbhkeppikaeaaa.NumK
open Go.RowKit

theorem sumA_reverse (l : List Lg) (a : Ac) : sumA l.reverse a = sumA l a := by
  induction l with
  | nil => rfl
  | cons x l ih => rw [List.reverse_cons, sumA_append, ih, sumA_one, sumA_cons]; omega
theorem may_reverse (l : List Lg) : mayL l.reverse = mayL l := by unfold mayL; rw [List.all_reverse]
theorem may_append (l m : List Lg) : mayL (l ++ m) = (mayL l && mayL m) := by unfold mayL; rw [List.all_append]
theorem join_congr {l m : List Lg} (h : mayL l = mayL m) (hs : ∀ a, sumA l a = sumA m a) : joinE l = joinE m ∧ joinL l = joinL m := by
  have e : sumA l = sumA m := funext hs
  have h1 : joinE l = joinE m := by unfold joinE; rw [h, e]
  exact ⟨h1, by unfold joinL; rw [h1, e]⟩
theorem join_zero {l : List Lg} (h : joinE l = 0) : mayL l = true ∧ ∀ a ∈ allK, isMoney (sumA l a) = true := by
  unfold joinE at h
  by_cases hm : mayL l = true
  · rw [if_pos hm] at h
    refine ⟨hm, ?_⟩
    by_cases h2 : allK.all (fun a => isMoney (sumA l a)) = true
    · exact List.all_eq_true.1 h2
    · rw [if_neg h2] at h; cases h
  · rw [if_neg hm] at h; cases h
theorem join_of {l : List Lg} (hm : mayL l = true) (h : ∀ a ∈ allK, isMoney (sumA l a) = true) : joinE l = 0 := by
  unfold joinE
  rw [if_pos hm, if_pos (List.all_eq_true.2 h)]

theorem allK_nodup : allK.Nodup := by decide +kernel
def pick (f : Ac → Int) (a : Ac) : Option Lg := if f a = 0 then none else some (a, f a)
theorem sumA_pick (f : Ac → Int) (L : List Ac) (hd : L.Nodup) (b : Ac) : sumA (L.filterMap (pick f)) b = if b ∈ L then f b else 0 := by
  induction L with
  | nil => simp [sumA_nil]
  | cons a L ih =>
    rw [List.nodup_cons] at hd
    have ih := ih hd.2
    rw [List.filterMap_cons]
    by_cases hab : a = b
    · subst hab
      rw [if_neg hd.1] at ih
      rw [if_pos (by simp)]
      by_cases h0 : f a = 0
      · rw [show pick f a = none by unfold pick; rw [if_pos h0], h0]; exact ih
      · rw [show pick f a = some (a, f a) by unfold pick; rw [if_neg h0]]
        dsimp only
        rw [sumA_cons, ih]; simp
    · have hmem : (if b ∈ a :: L then f b else 0) = if b ∈ L then f b else 0 := by simp [Ne.symm hab]
      rw [hmem, ← ih]
      by_cases h0 : f a = 0
      · rw [show pick f a = none by unfold pick; rw [if_pos h0]]
      · rw [show pick f a = some (a, f a) by unfold pick; rw [if_neg h0]]
        dsimp only
        rw [sumA_cons, if_neg hab]; omega
theorem joinF_pick (f : Ac → Int) : joinF f 108 = allK.filterMap (pick f) := by
  unfold joinF
  rw [List.take_of_length_le (by rw [allK_len]; exact Nat.le_refl _)]; rfl
theorem sumA_out (l : List Lg) (a : Ac) (hm : mayL l = true) (h : a ∉ allK) : sumA l a = 0 := by
  induction l with
  | nil => rfl
  | cons x l ih =>
    rw [may_cons] at hm
    rw [sumA_cons, ih hm.2, if_neg]
    · rfl
    · rintro rfl
      exact h (mem_allK x.1 (okL_parts hm.1).1)
/-- What is joined stands as what was joined. -/
theorem joined {l : List Lg} (h : joinE l = 0) : mayL (joinL l) = true ∧ ∀ a, sumA (joinL l) a = sumA l a := by
  obtain ⟨hm, hk⟩ := join_zero h
  have e : joinL l = allK.filterMap (pick (sumA l)) := by unfold joinL; rw [if_pos h, joinF_pick]
  rw [e]
  constructor
  · unfold mayL
    rw [List.all_eq_true]
    intro x hx
    obtain ⟨a, ha, hp⟩ := List.mem_filterMap.1 hx
    unfold pick at hp
    split at hp
    · cases hp
    · cases hp
      unfold okL
      rw [hk a ha, Bool.and_true]
      exact allK_right a ha
  · intro a
    rw [sumA_pick _ _ allK_nodup]
    split
    · rfl
    · rename_i hn; rw [sumA_out l a hm hn]
theorem join_again {l : List Lg} (h : joinE l = 0) : joinE (joinL l) = 0 ∧ joinL (joinL l) = joinL l := by
  obtain ⟨h1, h2⟩ := joined h
  obtain ⟨e1, e2⟩ := join_congr (l := joinL l) (m := l) (by rw [h1, (join_zero h).1]) h2
  exact ⟨e1.trans h, e2⟩

/-! ### currencies -/
theorem sumC_append (l m : List Lg) (c : Int) : sumC (l ++ m) c = sumC l c + sumC m c := by
  unfold sumC
  rw [List.filter_append, List.map_append, List.sum_append]
theorem sumC_cons (x : Lg) (l : List Lg) (c : Int) : sumC (x :: l) c = (if x.1.2.2 = c then x.2 else 0) + sumC l c := by
  unfold sumC
  by_cases h : x.1.2.2 = c
  · simp [h]
  · simp [h]
theorem sum_if (L : List Ac) (b : Ac) (v : Int) (hd : L.Nodup) : (L.map fun a => if b = a then v else 0).sum = if b ∈ L then v else 0 := by
  induction L with
  | nil => simp
  | cons a L ih =>
    rw [List.nodup_cons] at hd
    rw [List.map_cons, List.sum_cons, ih hd.2]
    by_cases h : b = a
    · subst h; simp [hd.1]
    · simp [h]
theorem sum_add (L : List Ac) (f g : Ac → Int) : (L.map fun a => f a + g a).sum = (L.map f).sum + (L.map g).sum := by
  induction L with
  | nil => rfl
  | cons a L ih => simp only [List.map_cons, List.sum_cons, ih]; omega
theorem sumC_eq (l : List Lg) (c : Int) (hm : mayL l = true) : sumC l c = ((allK.filter fun a => decide (a.2.2 = c)).map (sumA l)).sum := by
  induction l with
  | nil =>
    have : ∀ L : List Ac, (L.map (sumA [])).sum = 0 := by
      intro L
      induction L with
      | nil => rfl
      | cons a L ih => rw [List.map_cons, List.sum_cons, ih]; rfl
    rw [this]; rfl
  | cons x l ih =>
    rw [may_cons] at hm
    have e : sumA (x :: l) = fun a => (if x.1 = a then x.2 else 0) + sumA l a := funext (sumA_cons x l)
    rw [sumC_cons, ih hm.2, e, sum_add, sum_if _ _ _ (allK_nodup.filter _)]
    congr 1
    have hin := mem_allK x.1 (okL_parts hm.1).1
    by_cases hc : x.1.2.2 = c
    · rw [if_pos hc, if_pos (List.mem_filter.2 ⟨hin, by simpa using hc⟩)]
    · rw [if_neg hc, if_neg (fun h => hc (by simpa using (List.mem_filter.1 h).2))]
theorem even_congr {l m : List Lg} (hl : mayL l = true) (hm : mayL m = true) (hs : ∀ a, sumA l a = sumA m a) : evenL l = evenL m := by
  have e : sumA l = sumA m := funext hs
  have hc : ∀ c, sumC l c = sumC m c := fun c => by rw [sumC_eq l c hl, sumC_eq m c hm, e]
  unfold evenL
  rw [hc, hc, hc]
theorem check_zero {l : List Lg} : checkE l = 0 ↔ l.length ≠ 0 ∧ l.length ≤ 64 ∧ mayL l = true ∧ evenL l = true := by
  unfold checkE
  by_cases h0 : l.length = 0
  · rw [if_pos h0]; simp [h0]
  · rw [if_neg h0]
    by_cases h1 : 64 < l.length
    · rw [if_pos h1]; constructor
      · intro h; cases h
      · rintro ⟨_, h, _⟩; omega
    · rw [if_neg h1]
      by_cases h2 : mayL l = true
      · rw [if_pos h2]
        by_cases h3 : evenL l = true
        · rw [if_pos h3]; exact ⟨fun _ => ⟨h0, by omega, h2, h3⟩, fun _ => rfl⟩
        · rw [if_neg h3]; constructor
          · intro h; cases h
          · rintro ⟨_, _, _, h⟩; exact absurd h h3
      · rw [if_neg h2]; constructor
        · intro h; cases h
        · rintro ⟨_, _, h, _⟩; exact absurd h h2
theorem check_joined {l : List Lg} (h : joinE l = 0) (hc : checkE l = 0) (h0 : (joinL l).length ≠ 0) (h1 : (joinL l).length ≤ 64) : checkE (joinL l) = 0 := by
  rw [check_zero] at *
  obtain ⟨_, _, hm, he⟩ := hc
  obtain ⟨h2, h3⟩ := joined h
  exact ⟨h0, h1, h2, by rw [even_congr h2 hm h3]; exact he⟩
theorem even_append (l m : List Lg) (h1 : evenL l = true) (h2 : evenL m = true) : evenL (l ++ m) = true := by
  unfold evenL at *
  simp only [Bool.and_eq_true, decide_eq_true_eq] at *
  rw [sumC_append, sumC_append, sumC_append]
  omega
theorem check_append {l m : List Lg} (h1 : checkE l = 0) (h2 : checkE m = 0) (h : (l ++ m).length ≤ 64) : checkE (l ++ m) = 0 := by
  rw [check_zero] at *
  exact ⟨by rw [List.length_append]; omega, h, by rw [may_append, h1.2.2.1, h2.2.2.1]; rfl, even_append l m h1.2.2.2 h2.2.2.2⟩
theorem join_append {l m : List Lg} (h1 : joinE l = 0) (h2 : joinE m = 0) : joinE (joinL l ++ joinL m) = joinE (l ++ m) ∧ joinL (joinL l ++ joinL m) = joinL (l ++ m) := by
  obtain ⟨a1, a2⟩ := joined h1
  obtain ⟨b1, b2⟩ := joined h2
  refine join_congr ?_ fun a => ?_
  · rw [may_append, may_append, a1, b1, (join_zero h1).1, (join_zero h2).1]
  · rw [sumA_append, sumA_append, a2, b2]

/-! ### turns -/
theorem money_neg (n : Int) (h : isMoney n = true) : isMoney (-n) = true := by rw [isMoney_iff] at *; omega
theorem turnL_may (l : List Lg) (h : mayL l = true) : turnL l = l.map fun x => (x.1, -x.2) := by
  unfold turnL
  refine List.map_congr_left fun x hx => ?_
  have := List.all_eq_true.1 h x hx
  unfold okL at this
  simp only [Bool.and_eq_true] at this
  rw [capV_in this.2]
theorem may_turn (l : List Lg) (h : mayL l = true) : mayL (turnL l) = true := by
  rw [turnL_may l h]
  unfold mayL at *
  rw [List.all_map, List.all_eq_true] at *
  intro x hx
  have := h x hx
  unfold okL at this
  simp only [Bool.and_eq_true] at this
  show okL (x.1, -x.2) = true
  unfold okL
  simp only [Bool.and_eq_true]
  exact ⟨this.1, money_neg _ this.2⟩
theorem turn_turn (l : List Lg) (h : mayL l = true) : turnL (turnL l) = l := by
  rw [turnL_may _ (may_turn l h), turnL_may l h, List.map_map]
  conv => rhs; rw [← List.map_id l]
  refine List.map_congr_left fun x _ => ?_
  simp
theorem sumA_turn (l : List Lg) (h : mayL l = true) (a : Ac) : sumA (turnL l) a = -sumA l a := by
  rw [turnL_may l h]
  clear h
  induction l with
  | nil => rfl
  | cons x l ih =>
    rw [List.map_cons, sumA_cons, sumA_cons, ih]
    dsimp only
    split <;> omega
theorem join_turn {l : List Lg} (h : joinE l = 0) : joinE (l ++ turnL l) = 0 ∧ joinL (l ++ turnL l) = [] := by
  have hm := (join_zero h).1
  have hs : ∀ a, sumA (l ++ turnL l) a = 0 := fun a => by rw [sumA_append, sumA_turn l hm]; omega
  have h1 : joinE (l ++ turnL l) = 0 := join_of (by rw [may_append, hm, may_turn l hm]; rfl) (fun a _ => by rw [hs]; decide)
  refine ⟨h1, ?_⟩
  unfold joinL
  rw [if_pos h1, joinF_pick, List.filterMap_eq_nil_iff]
  intro a _
  unfold pick
  rw [if_pos (hs a)]

/-! ### moves -/
theorem check_move_arg (a b : Ac) (n : Int) (h : rightA a.1 a.2.1 a.2.2 = false ∨ rightA b.1 b.2.1 b.2.2 = false) : checkE (moveL a b n) = 3 := by
  have hm : mayL (moveL a b n) = false := by
    rw [Bool.eq_false_iff]
    intro hh
    unfold moveL at hh
    rw [may_cons, may_cons] at hh
    have h1 := (okL_parts hh.1).1
    have h2 := (okL_parts hh.2.1).1
    dsimp only at h1 h2
    rcases h with h | h
    · rw [h] at h1; cases h1
    · rw [h] at h2; cases h2
  unfold checkE
  rw [hm]
  rfl
theorem check_move (a b : Ac) (n : Int) (ha : rightA a.1 a.2.1 a.2.2 = true) (hb : rightA b.1 b.2.1 b.2.2 = true) :
    checkE (moveL a b n) = if a.2.2 = b.2.2 ∨ capV n = 0 then 0 else 12 := by
  have hcap := capV_bounds n
  have hm : mayL (moveL a b n) = true := by
    unfold moveL
    rw [may_cons, may_cons]
    refine ⟨?_, ?_, rfl⟩
    · unfold okL; simp only [Bool.and_eq_true]; exact ⟨ha, by rw [isMoney_iff]; omega⟩
    · unfold okL; simp only [Bool.and_eq_true]; exact ⟨hb, by rw [isMoney_iff]; omega⟩
  have hca : 0 ≤ a.2.2 ∧ a.2.2 < 3 := by unfold rightA at ha; simp only [Bool.and_eq_true, decide_eq_true_eq] at ha; exact ha.1.2
  have hcb : 0 ≤ b.2.2 ∧ b.2.2 < 3 := by unfold rightA at hb; simp only [Bool.and_eq_true, decide_eq_true_eq] at hb; exact hb.1.2
  have hs : ∀ c, sumC (moveL a b n) c = (if a.2.2 = c then -(capV n) else 0) + (if b.2.2 = c then capV n else 0) := fun c => by
    unfold moveL
    rw [sumC_cons, sumC_cons, show sumC [] c = 0 from rfl]; dsimp only; omega
  have he : evenL (moveL a b n) = decide (a.2.2 = b.2.2 ∨ capV n = 0) := by
    unfold evenL
    rw [hs, hs, hs, Bool.eq_iff_iff]
    simp only [Bool.and_eq_true, decide_eq_true_eq]
    generalize a.2.2 = p at *
    generalize b.2.2 = q at *
    generalize capV n = x at *
    have hp : p = 0 ∨ p = 1 ∨ p = 2 := by omega
    have hq : q = 0 ∨ q = 1 ∨ q = 2 := by omega
    rcases hp with rfl | rfl | rfl <;> rcases hq with rfl | rfl | rfl <;> simp <;> omega
  unfold checkE
  rw [hm, he]
  by_cases h : a.2.2 = b.2.2 ∨ capV n = 0
  · rw [if_pos h, decide_eq_true h]; rfl
  · rw [if_neg h, decide_eq_false h]; rfl
end Go.Proofs.Ytmbhkeppikaeaaa.NumK
