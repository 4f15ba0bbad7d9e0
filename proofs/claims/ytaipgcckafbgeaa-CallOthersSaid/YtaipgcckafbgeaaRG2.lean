/- Rolls: rising lists; who is found, what is put. -/
import Derived.Test.YtaipgcckafbgeaaRG1
import Derived.Laws.Bits64b
import Derived.OpenShut
import Derived.ChangeArms
import Derived.Deep.Slices
import Derived.Laws.AppendOwnNone
import Derived.Lib.Mul64
import Derived.Deep.QuietTactic
import Derived.BigQuiet
import Derived.Deep.DeepCutAuto
import Derived.Deep.Light
import Derived.Laws.Externs
import Derived.Laws.OwnMore
import Derived.Lib.BitFns
namespace Go.Proofs.Ytaipgcckafbgeaa.NumK

/-- The number, the state, the need. -/
abbrev Mb := Int × Int × Int
/-- The number, the currency, the price, the cut. -/
abbrev As := Int × Int × Int × Int
/-- The number, the currency, the multiplier, the add-on, the price that was told, the last one; the shifts. -/
abbrev In := (Int × Int × Int × Int × Int × Int) × (Int × Int × Int × Int × Int × Int)
abbrev Rl := List Mb × List In × List As
abbrev mb0 : Mb := (0, 0, 0)
abbrev as0 : As := (0, 0, 0, 0)
abbrev in0 : In := ((0, 0, 0, 0, 0, 0), (0, 0, 0, 0, 0, 0))

def noMb (x : Mb) : Int := x.1
def noIn (x : In) : Int := x.1.1
def noAs (x : As) : Int := x.1

def wi (n lo hi : Int) : Bool := decide (lo ≤ n) && decide (n ≤ hi)
theorem wi_iff (n lo hi : Int) : wi n lo hi = true ↔ lo ≤ n ∧ n ≤ hi := by simp [wi]
def okMb (x : Mb) : Bool := wi x.1 1 16 && wi x.2.1 1 3 && wi x.2.2 0 4611686018427387904
def okAs (x : As) : Bool := wi x.1 1 6 && wi x.2.1 0 2 && wi x.2.2.1 1 1073741824 && wi x.2.2.2 0 10000
def okSh (n : Int) : Bool := wi n (-1073741824) 1073741824
def shIn (x : In) : List Int := [x.2.1, x.2.2.1, x.2.2.2.1, x.2.2.2.2.1, x.2.2.2.2.2.1, x.2.2.2.2.2.2]
def okIn6 (x : In) : Bool := wi x.1.1 1 8 && wi x.1.2.1 0 2 && wi x.1.2.2.1 1 1024 && wi x.1.2.2.2.1 0 1073741824 && wi x.1.2.2.2.2.1 0 1073741824 && wi x.1.2.2.2.2.2 0 1073741824
def okIn (x : In) : Bool := (shIn x).all okSh && okIn6 x

section
variable {α : Type}

/-! ### lists that rise -/
def Rise (no : α → Int) (l : List α) : Prop := l.Pairwise fun x y => no x < no y

def stepOK (ok : α → Bool) (no : α → Int) (d : α) (l : List α) (j : Nat) : Bool := ok (l.getD j d) && (decide (j = 0) || decide (no (l.getD (j - 1) d) < no (l.getD j d)))
def rightL (ok : α → Bool) (no : α → Int) (d : α) (l : List α) : Bool := (List.range l.length).all (stepOK ok no d l)

theorem range_all_succ (p : Nat → Bool) (j : Nat) : (List.range (j + 1)).all p = ((List.range j).all p && p j) := by
  rw [List.range_succ, List.all_append]; simp
theorem range_all_no (p : Nat → Bool) (j n : Nat) (h : j < n) (hp : p j = false) : false = (List.range n).all p := by
  symm
  rw [List.all_eq_false]
  exact ⟨j, List.mem_range.2 h, by rw [hp]; decide⟩

theorem getD_mem (l : List α) (d : α) (j : Nat) (h : j < l.length) : l.getD j d ∈ l := by
  rw [show l.getD j d = l[j] by simp [List.getD, h]]; exact List.getElem_mem h
theorem getD_at (l : List α) (d : α) (j : Nat) (h : j < l.length) : l.getD j d = l[j] := by simp [List.getD, h]

theorem rise_of_steps (no : α → Int) (d : α) (l : List α) (h : ∀ j, 0 < j → j < l.length → no (l.getD (j - 1) d) < no (l.getD j d)) : Rise no l := by
  unfold Rise
  rw [List.pairwise_iff_getElem]
  intro i j hi hj hij
  induction j with
  | zero => omega
  | succ j ih =>
    have h1 := h (j + 1) (by omega) hj
    rw [getD_at _ _ _ hj, show j + 1 - 1 = j by omega, getD_at _ _ _ (by omega)] at h1
    by_cases hc : i = j
    · subst hc; exact h1
    · exact Int.lt_trans (ih (by omega) (by omega)) h1

theorem rightL_iff (ok : α → Bool) (no : α → Int) (d : α) (l : List α) : rightL ok no d l = true ↔ (∀ x ∈ l, ok x = true) ∧ Rise no l := by
  unfold rightL
  rw [List.all_eq_true]
  constructor
  · intro h
    refine ⟨fun x hx => ?_, rise_of_steps no d l fun j h0 hj => ?_⟩
    · obtain ⟨j, hj, rfl⟩ := List.getElem_of_mem hx
      have h1 := h j (List.mem_range.2 hj)
      unfold stepOK at h1
      rw [getD_at _ _ _ hj] at h1
      simp only [Bool.and_eq_true] at h1
      exact h1.1
    · have h1 := h j (List.mem_range.2 hj)
      unfold stepOK at h1
      simp only [Bool.and_eq_true, Bool.or_eq_true, decide_eq_true_eq] at h1
      rcases h1.2 with h2 | h2
      · omega
      · exact h2
  · rintro ⟨h1, h2⟩ j hj
    have hj := List.mem_range.1 hj
    unfold stepOK
    simp only [Bool.and_eq_true, Bool.or_eq_true, decide_eq_true_eq]
    refine ⟨h1 _ (getD_mem l d j hj), ?_⟩
    by_cases h0 : j = 0
    · exact Or.inl h0
    · right
      rw [getD_at _ _ _ hj, getD_at _ _ _ (by omega)]
      exact List.pairwise_iff_getElem.1 h2 (j - 1) j (by omega) hj (by omega)

/-- Two lists that rise, and have the same in them, are one. -/
theorem rise_ext (no : α → Int) : ∀ (l m : List α), Rise no l → Rise no m → (∀ y, y ∈ l ↔ y ∈ m) → l = m
  | [], [], _, _, _ => rfl
  | [], y :: m, _, _, h => by have := (h y).2 (by simp); simp at this
  | x :: l, [], _, _, h => by have := (h x).1 (by simp); simp at this
  | x :: l, y :: m, hl, hm, h => by
    have h1 := List.pairwise_cons.1 hl
    have h2 := List.pairwise_cons.1 hm
    have hxy : x = y := by
      have a1 : x ∈ y :: m := (h x).1 (by simp)
      have a2 : y ∈ x :: l := (h y).2 (by simp)
      rcases List.mem_cons.1 a1 with e | a1
      · exact e
      · rcases List.mem_cons.1 a2 with e | a2
        · exact e.symm
        · have := h2.1 x a1
          have := h1.1 y a2
          omega
    subst hxy
    congr 1
    refine rise_ext no l m h1.2 h2.2 fun z => ⟨fun hz => ?_, fun hz => ?_⟩
    · rcases List.mem_cons.1 ((h z).1 (List.mem_cons_of_mem _ hz)) with e | e
      · have := h1.1 z hz; rw [e] at this; omega
      · exact e
    · rcases List.mem_cons.1 ((h z).2 (List.mem_cons_of_mem _ hz)) with e | e
      · have := h2.1 z hz; rw [e] at this; omega
      · exact e

theorem rise_one {no : α → Int} {l : List α} (h : Rise no l) {x y : α} (hx : x ∈ l) (hy : y ∈ l) (he : no x = no y) : x = y := by
  obtain ⟨i, hi, rfl⟩ := List.getElem_of_mem hx
  obtain ⟨j, hj, rfl⟩ := List.getElem_of_mem hy
  have hp := List.pairwise_iff_getElem.1 h
  rcases Nat.lt_trichotomy i j with h1 | h1 | h1
  · have := hp i j hi hj h1; omega
  · subst h1; rfl
  · have := hp j i hj hi h1; omega

/-! ### who is found -/
def hasL (no : α → Int) (l : List α) (n : Int) : Bool := l.any fun x => decide (no x = n)
def findL (no : α → Int) (d : α) (l : List α) (n : Int) : α := (l.find? fun x => decide (no x = n)).getD d

/-! ### what is put -/
def putL (no : α → Int) (l : List α) (x : α) : List α := l.filter (fun y => decide (no y < no x)) ++ x :: l.filter (fun y => decide (no x < no y))

/-- What the binary search tells. -/
theorem put_at {no : α → Int} {d : α} {l : List α} (h : Rise no l) (x : α) (k : Nat) (hk : k ≤ l.length) (h1 : ∀ i, i < k → no (l.getD i d) < no x) (h2 : ∀ i, k ≤ i → i < l.length → no x ≤ no (l.getD i d)) :
    (l.take k = l.filter fun y => decide (no y < no x)) ∧ ((k < l.length ∧ no (l.getD k d) = no x) → l.drop (k + 1) = l.filter fun y => decide (no x < no y)) ∧ (¬ (k < l.length ∧ no (l.getD k d) = no x) → l.drop k = l.filter fun y => decide (no x < no y)) := by
  have mt : ∀ y, y ∈ l.take k ↔ y ∈ l.filter fun y => decide (no y < no x) := by
    intro y
    rw [List.mem_filter, decide_eq_true_eq]
    constructor
    · intro hy
      obtain ⟨i, hi, rfl⟩ := List.getElem_of_mem hy
      rw [List.length_take] at hi
      rw [List.getElem_take]
      have := h1 i (by omega)
      rw [getD_at l d i (by omega)] at this
      exact ⟨List.getElem_mem _, this⟩
    · rintro ⟨hy, hn⟩
      obtain ⟨i, hi, rfl⟩ := List.getElem_of_mem hy
      rcases Nat.lt_or_ge i k with h3 | h3
      · exact List.mem_take_iff_getElem.2 ⟨i, by omega, rfl⟩
      · have := h2 i h3 hi
        rw [getD_at l d i hi] at this; omega
  have md : ∀ m, (∀ i, m ≤ i → i < l.length → no x < no (l.getD i d)) → (∀ i, i < m → i < l.length → no (l.getD i d) ≤ no x) → l.drop m = l.filter fun y => decide (no x < no y) := by
    intro m g1 g2
    refine rise_ext no _ _ (List.Pairwise.sublist (List.drop_sublist _ _) h) (List.Pairwise.filter _ h) fun y => ?_
    rw [List.mem_filter, decide_eq_true_eq]
    constructor
    · intro hy
      obtain ⟨i, hi, rfl⟩ := List.getElem_of_mem hy
      rw [List.length_drop] at hi
      rw [List.getElem_drop]
      have := g1 (m + i) (by omega) (by omega)
      rw [getD_at l d _ (by omega)] at this
      exact ⟨List.getElem_mem _, this⟩
    · rintro ⟨hy, hn⟩
      obtain ⟨i, hi, rfl⟩ := List.getElem_of_mem hy
      rcases Nat.lt_or_ge i m with h3 | h3
      · have := g2 i h3 hi
        rw [getD_at l d i hi] at this; omega
      · exact List.mem_drop_iff_getElem.2 ⟨i - m, by omega, by congr 1; omega⟩
  have hp := List.pairwise_iff_getElem.1 h
  refine ⟨rise_ext no _ _ (List.Pairwise.sublist (List.take_sublist _ _) h) (List.Pairwise.filter _ h) mt, fun hh => md _ (fun i hi hl => ?_) (fun i hi hl => ?_), fun hh => md _ (fun i hi hl => ?_) (fun i hi hl => ?_)⟩
  · have := hp k i hh.1 hl (by omega)
    have e := hh.2
    rw [getD_at l d k hh.1] at e
    rw [getD_at l d i hl]; omega
  · rcases Nat.lt_or_ge i k with h3 | h3
    · have := h1 i h3; omega
    · obtain rfl : i = k := by omega
      omega
  · have h3 := h2 i hi hl
    by_cases hc : no x = no (l.getD i d)
    · exfalso
      apply hh
      rcases Nat.eq_or_lt_of_le hi with h4 | h4
      · subst h4; exact ⟨hl, hc.symm⟩
      · have h5 := h2 k (by omega) (by omega)
        have h6 := hp k i (by omega) hl h4
        rw [getD_at l d k (by omega)] at h5
        rw [getD_at l d i hl] at hc
        omega
    · omega
  · have := h1 i hi; omega

/-! ### how long a list may be -/
/-! ### as the document collects them -/
def collL (no : α → Int) (d : α) (l : List α) (x : α) (k : Nat) : List α :=
  (List.range k).flatMap fun i : Nat => if (i : Int) + 1 = no x then [x] else if hasL no l ((i : Int) + 1) = true then [findL no d l ((i : Int) + 1)] else []
end
end Go.Proofs.Ytaipgcckafbgeaa.NumK
namespace Go.Proofs.Ytaipgcckafbgeaa.NumK
set_option linter.unusedVariables false
section
variable {α : Type}

def setL (no : α → Int) (l : List α) (k : Int) (o : Option α) : List α := l.filter (fun y => decide (no y < k)) ++ (o.toList ++ l.filter (fun y => decide (k < no y)))
theorem mem_setL (no : α → Int) (l : List α) (k : Int) (o : Option α) (y : α) : y ∈ setL no l k o ↔ o = some y ∨ (y ∈ l ∧ no y ≠ k) := by
  unfold setL
  rw [List.mem_append, List.mem_append, List.mem_filter, List.mem_filter, Option.mem_toList]
  simp only [decide_eq_true_eq]
  constructor
  · rintro (⟨h1, h2⟩ | h | ⟨h1, h2⟩)
    · exact Or.inr ⟨h1, by omega⟩
    · exact Or.inl h
    · exact Or.inr ⟨h1, by omega⟩
  · rintro (h | ⟨h1, h2⟩)
    · exact Or.inr (Or.inl h)
    · rcases Int.lt_or_gt_of_ne h2 with h3 | h3
      · exact Or.inl ⟨h1, h3⟩
      · exact Or.inr (Or.inr ⟨h1, h3⟩)
theorem rise_setL {no : α → Int} {l : List α} (h : Rise no l) (k : Int) (o : Option α) (ho : ∀ x, o = some x → no x = k) : Rise no (setL no l k o) := by
  unfold Rise setL
  rw [List.pairwise_append, List.pairwise_append]
  refine ⟨List.Pairwise.filter _ h, ⟨by cases o <;> simp, List.Pairwise.filter _ h, fun y hy z hz => ?_⟩, fun y hy z hz => ?_⟩
  · rw [Option.mem_toList] at hy
    rw [List.mem_filter, decide_eq_true_eq] at hz
    rw [ho y hy]; exact hz.2
  · rw [List.mem_filter, decide_eq_true_eq] at hy
    rcases List.mem_append.1 hz with hz | hz
    · rw [Option.mem_toList] at hz
      rw [ho z hz]; exact hy.2
    · rw [List.mem_filter, decide_eq_true_eq] at hz
      omega
theorem right_setL {ok : α → Bool} {no : α → Int} {d : α} {l : List α} (h : rightL ok no d l = true) (k : Int) (o : Option α) (ho : ∀ x, o = some x → no x = k ∧ ok x = true) : rightL ok no d (setL no l k o) = true := by
  obtain ⟨h1, h2⟩ := (rightL_iff ok no d l).1 h
  refine (rightL_iff _ _ _ _).2 ⟨fun y hy => ?_, rise_setL h2 k o fun x hx => (ho x hx).1⟩
  rcases (mem_setL no l k o y).1 hy with h3 | ⟨h3, _⟩
  · exact (ho y h3).2
  · exact h1 y h3
/-- What is put stands there. -/
def getL (no : α → Int) (l : List α) (k : Int) : Option α := l.find? fun x => decide (no x = k)
theorem getL_iff {no : α → Int} {l : List α} (h : Rise no l) (k : Int) (x : α) : getL no l k = some x ↔ x ∈ l ∧ no x = k := by
  unfold getL
  constructor
  · intro e
    exact ⟨List.mem_of_find?_eq_some e, by simpa using List.find?_some e⟩
  · rintro ⟨h1, h2⟩
    cases e : l.find? (fun x => decide (no x = k)) with
    | none => rw [List.find?_eq_none] at e; have := e x h1; simp [h2] at this
    | some y =>
      have e1 : y ∈ l := List.mem_of_find?_eq_some e
      have e2 : no y = k := by simpa using List.find?_some e
      rw [rise_one h e1 h1 (by omega)]
theorem getL_none {no : α → Int} {l : List α} (k : Int) : getL no l k = none ↔ ∀ x ∈ l, no x ≠ k := by
  unfold getL; rw [List.find?_eq_none]; simp
theorem getL_set {no : α → Int} {l : List α} (h : Rise no l) (k : Int) (o : Option α) (ho : ∀ x, o = some x → no x = k) (n : Int) : getL no (setL no l k o) n = if n = k then o else getL no l n := by
  have hr := rise_setL h k o ho
  by_cases hc : n = k
  · subst hc
    rw [if_pos rfl]
    cases o with
    | none => rw [getL_none]; intro x hx; rcases (mem_setL no l n none x).1 hx with h1 | ⟨_, h1⟩
              · cases h1
              · exact h1
    | some x => exact (getL_iff hr n x).2 ⟨(mem_setL no l n _ x).2 (Or.inl rfl), ho x rfl⟩
  · rw [if_neg hc]
    cases e : getL no l n with
    | none =>
      rw [getL_none] at e ⊢
      intro x hx
      rcases (mem_setL no l k o x).1 hx with h1 | ⟨h1, _⟩
      · rw [ho x h1]; omega
      · exact e x h1
    | some x =>
      obtain ⟨h1, h2⟩ := (getL_iff h n x).1 e
      exact (getL_iff hr n x).2 ⟨(mem_setL no l k o x).2 (Or.inr ⟨h1, by omega⟩), h2⟩
/-! ### out of keys that rise -/
/-- Collected by keys, with one of them replaced. -/
theorem keys_set {κ : Type} {no : α → Int} {nk : κ → Int} {l : List α} {ks : List κ} {g : κ → Option α} (h : Rise no l) (hk : ks.Pairwise fun a b => nk a < nk b) (hl : ∀ x ∈ l, ∃ k ∈ ks, nk k = no x) (c : κ) (hc : c ∈ ks) (o : Option α) (ho : ∀ x, o = some x → no x = nk c)
    (hg : ∀ k ∈ ks, g k = if nk k = nk c then o else getL no l (nk k)) : ks.filterMap g = setL no l (nk c) o := by
  have hg2 : ∀ k ∈ ks, ∀ x, g k = some x → no x = nk k := fun k hkm x hx => by
    rw [hg k hkm] at hx
    split at hx
    · next e => rw [ho x hx, e]
    · exact ((getL_iff h _ x).1 hx).2
  have hr : Rise no (ks.filterMap g) := by
    unfold Rise
    rw [List.pairwise_filterMap]
    exact List.Pairwise.imp_of_mem (fun {a b} ha hb hab x hx y hy => by rw [hg2 a ha x hx, hg2 b hb y hy]; exact hab) hk
  refine rise_ext no _ _ hr (rise_setL h _ o ho) fun y => ?_
  rw [mem_setL, List.mem_filterMap]
  constructor
  · rintro ⟨k, hkm, e⟩
    rw [hg k hkm] at e
    split at e
    · exact Or.inl e
    · next hne =>
      obtain ⟨h1, h2⟩ := (getL_iff h _ y).1 e
      exact Or.inr ⟨h1, by omega⟩
  · rintro (h1 | ⟨h1, h2⟩)
    · exact ⟨c, hc, by rw [hg c hc, if_pos rfl]; exact h1⟩
    · obtain ⟨k, hkm, e⟩ := hl y h1
      exact ⟨k, hkm, by rw [hg k hkm, if_neg (by omega)]; exact (getL_iff h _ y).2 ⟨h1, e.symm⟩⟩
end
end Go.Proofs.Ytaipgcckafbgeaa.NumK
namespace Go.Proofs.Ytaipgcckafbgeaa.NumK

abbrev Du := Int × Int × Int
abbrev du0 : Du := (0, 0, 0)
end Go.Proofs.Ytaipgcckafbgeaa.NumK
namespace Go.Proofs.Ytaipgcckafbgeaa.NumK
set_option linter.unusedVariables false

/-- Who, the currency, the amount, the deadline. -/
abbrev Ca := Int × Int × Int × Int
abbrev ca0 : Ca := (0, 0, 0, 0)
def noCa (x : Ca) : Int := x.1 * 4 + x.2.1
def okCK (w c : Int) : Bool := wi w 1 16 && wi c 0 2
def okCa (x : Ca) : Bool := okCK x.1 x.2.1 && wi x.2.2.1 1 4611686018427387904 && wi x.2.2.2 0 1099511627776
def rightCa (l : List Ca) : Bool := rightL okCa noCa ca0 l
theorem rightCa_iff (l : List Ca) : rightCa l = true ↔ (∀ x ∈ l, okCa x = true) ∧ Rise noCa l := rightL_iff _ _ _ _
theorem okCK_iff (w c : Int) : okCK w c = true ↔ (1 ≤ w ∧ w ≤ 16) ∧ 0 ≤ c ∧ c ≤ 2 := by unfold okCK; rw [Bool.and_eq_true, wi_iff, wi_iff]
theorem okCa_iff (x : Ca) : okCa x = true ↔ okCK x.1 x.2.1 = true ∧ (1 ≤ x.2.2.1 ∧ x.2.2.1 ≤ 4611686018427387904) ∧ 0 ≤ x.2.2.2 ∧ x.2.2.2 ≤ 1099511627776 := by
  unfold okCa; rw [Bool.and_eq_true, Bool.and_eq_true, wi_iff, wi_iff, and_assoc]
/-- The first call of these. -/
def isC (w c : Int) (x : Ca) : Bool := decide (x.1 = w) && decide (x.2.1 = c)
def findC (l : List Ca) (w c : Int) : Option Ca := l.find? (isC w c)
theorem isC_iff (w c : Int) (x : Ca) : isC w c x = true ↔ x.1 = w ∧ x.2.1 = c := by unfold isC; simp
theorem isC_no {x : Ca} (h : okCa x = true) {w c : Int} (hk : okCK w c = true) : isC w c x = decide (noCa x = w * 4 + c) := by
  have h1 := (okCK_iff _ _).1 ((okCa_iff x).1 h).1
  have h2 := (okCK_iff _ _).1 hk
  rw [Bool.eq_iff_iff, isC_iff, decide_eq_true_eq]
  unfold noCa
  omega
theorem find_get {l : List Ca} (h : rightCa l = true) {w c : Int} (hk : okCK w c = true) : findC l w c = getL noCa l (w * 4 + c) := by
  have h1 := ((rightCa_iff l).1 h).1
  unfold findC getL
  clear h
  induction l with
  | nil => rfl
  | cons x l ih =>
    rw [List.find?_cons, List.find?_cons, isC_no (h1 x (by simp)) hk, ih fun y hy => h1 y (List.mem_cons_of_mem _ hy)]
theorem find_out {l : List Ca} (h : rightCa l = true) {w c : Int} (hk : okCK w c = false) : findC l w c = none := by
  have h1 := ((rightCa_iff l).1 h).1
  unfold findC
  rw [List.find?_eq_none]
  intro x hx hc
  obtain ⟨rfl, rfl⟩ := (isC_iff _ _ _).1 hc
  rw [((okCa_iff x).1 (h1 x hx)).1] at hk
  cases hk
def amC (o : Option Ca) : Int := match o with | some x => x.2.2.1 | none => 0
def ofC (l : List Ca) (w c : Int) : Int := amC (findC l w c)

def okDu (d : Du) : Bool := okCK d.1 d.2.1 && wi d.2.2 0 4611686018427387904
def askO (l : List Ca) (d : Du) (t : Int) : Option Ca := if d.2.2 = 0 then none else some (d.1, d.2.1, d.2.2, match findC l d.1 d.2.1 with | some x => x.2.2.2 | none => t)
def meetO (l : List Ca) (d : Du) : Option Ca := match findC l d.1 d.2.1 with | some x => (if x.2.2.1 - d.2.2 ≤ 0 then none else some (x.1, x.2.1, x.2.2.1 - d.2.2, x.2.2.2)) | none => none
def askE (l : List Ca) (d : Du) (t : Int) : Int := if rightCa l then (if okDu d && wi t 0 1099511627776 then 0 else 3) else 14
def meetE (l : List Ca) (d : Du) : Int := if rightCa l then (if okDu d then 0 else 3) else 14
def askL (l : List Ca) (d : Du) (t : Int) : List Ca := if askE l d t = 0 then setL noCa l (d.1 * 4 + d.2.1) (askO l d t) else []
def meetL (l : List Ca) (d : Du) : List Ca := if meetE l d = 0 then setL noCa l (d.1 * 4 + d.2.1) (meetO l d) else []
theorem askE_ok {l : List Ca} {d : Du} {t : Int} : askE l d t = 0 ↔ rightCa l = true ∧ okDu d = true ∧ 0 ≤ t ∧ t ≤ 1099511627776 := by
  unfold askE
  by_cases h1 : rightCa l = true
  · rw [if_pos h1]
    by_cases h2 : (okDu d && wi t 0 1099511627776) = true
    · rw [if_pos h2]; rw [Bool.and_eq_true, wi_iff] at h2; exact ⟨fun _ => ⟨h1, h2⟩, fun _ => rfl⟩
    · rw [if_neg h2]; rw [Bool.and_eq_true, wi_iff] at h2; exact ⟨fun h => absurd h (by decide), fun h => absurd h.2 h2⟩
  · rw [if_neg h1]; exact ⟨fun h => absurd h (by decide), fun h => absurd h.1 h1⟩
theorem meetE_ok {l : List Ca} {d : Du} : meetE l d = 0 ↔ rightCa l = true ∧ okDu d = true := by
  unfold meetE
  by_cases h1 : rightCa l = true
  · rw [if_pos h1]
    by_cases h2 : okDu d = true
    · rw [if_pos h2]; exact ⟨fun _ => ⟨h1, h2⟩, fun _ => rfl⟩
    · rw [if_neg h2]; exact ⟨fun h => absurd h (by decide), fun h => absurd h.2 h2⟩
  · rw [if_neg h1]; exact ⟨fun h => absurd h (by decide), fun h => absurd h.1 h1⟩
theorem okDu_iff (d : Du) : okDu d = true ↔ okCK d.1 d.2.1 = true ∧ 0 ≤ d.2.2 ∧ d.2.2 ≤ 4611686018427387904 := by unfold okDu; rw [Bool.and_eq_true, wi_iff]
theorem find_in {l : List Ca} {w c : Int} {x : Ca} (h : findC l w c = some x) : x ∈ l ∧ x.1 = w ∧ x.2.1 = c := by
  unfold findC at h
  exact ⟨List.mem_of_find?_eq_some h, (isC_iff _ _ _).1 (List.find?_some h)⟩

theorem ask_o {l : List Ca} {d : Du} {t : Int} (h : askE l d t = 0) : ∀ x, askO l d t = some x → noCa x = d.1 * 4 + d.2.1 ∧ okCa x = true := by
  obtain ⟨h1, h2, h3⟩ := askE_ok.1 h
  have h2 := (okDu_iff d).1 h2
  intro x hx
  unfold askO at hx
  split at hx
  · cases hx
  · cases hx
    refine ⟨rfl, (okCa_iff _).2 ⟨h2.1, by simp only; omega, ?_⟩⟩
    cases e : findC l d.1 d.2.1 with
    | none => exact h3
    | some y => exact ((okCa_iff y).1 (((rightCa_iff l).1 h1).1 y (find_in e).1)).2.2
theorem meet_o {l : List Ca} {d : Du} (h : meetE l d = 0) : ∀ x, meetO l d = some x → noCa x = d.1 * 4 + d.2.1 ∧ okCa x = true := by
  obtain ⟨h1, h2⟩ := meetE_ok.1 h
  have h2 := (okDu_iff d).1 h2
  intro x hx
  unfold meetO at hx
  cases e : findC l d.1 d.2.1 with
  | none => rw [e] at hx; cases hx
  | some y =>
    rw [e] at hx
    obtain ⟨e1, e2, e3⟩ := find_in e
    have h5 := (okCa_iff y).1 (((rightCa_iff l).1 h1).1 y e1)
    simp only at hx
    split at hx
    · cases hx
    · cases hx
      refine ⟨by unfold noCa; simp only; rw [e2, e3], (okCa_iff _).2 ⟨h5.1, by simp only; omega, h5.2.2⟩⟩
theorem ask_right {l : List Ca} {d : Du} {t : Int} (h : askE l d t = 0) : rightCa (askL l d t) = true := by
  unfold askL; rw [if_pos h]
  exact right_setL (askE_ok.1 h).1 _ _ (ask_o h)
theorem meet_right {l : List Ca} {d : Du} (h : meetE l d = 0) : rightCa (meetL l d) = true := by
  unfold meetL; rw [if_pos h]
  exact right_setL (meetE_ok.1 h).1 _ _ (meet_o h)
/-- What is found behind it. -/
theorem find_set {l : List Ca} (h : rightCa l = true) {w c : Int} (hk : okCK w c = true) (o : Option Ca) (ho : ∀ x, o = some x → noCa x = w * 4 + c ∧ okCa x = true) (w2 c2 : Int) :
    findC (setL noCa l (w * 4 + c) o) w2 c2 = if w2 = w ∧ c2 = c then o else findC l w2 c2 := by
  have hr : rightCa (setL noCa l (w * 4 + c) o) = true := right_setL h _ _ ho
  have hri := ((rightCa_iff l).1 h).2
  by_cases h2 : okCK w2 c2 = true
  · rw [find_get hr h2, getL_set hri _ _ (fun x hx => (ho x hx).1), find_get h h2]
    have g1 := (okCK_iff _ _).1 hk
    have g2 := (okCK_iff _ _).1 h2
    by_cases hc : w2 = w ∧ c2 = c
    · rw [if_pos hc, if_pos (by omega)]
    · rw [if_neg hc, if_neg (by omega)]
  · have h2 : okCK w2 c2 = false := by simpa using h2
    rw [find_out hr h2, find_out h h2, if_neg]
    rintro ⟨rfl, rfl⟩
    rw [hk] at h2; cases h2
theorem ask_find {l : List Ca} {d : Du} {t : Int} (h : askE l d t = 0) (w c : Int) : findC (askL l d t) w c = if w = d.1 ∧ c = d.2.1 then askO l d t else findC l w c := by
  unfold askL; rw [if_pos h]
  exact find_set (askE_ok.1 h).1 ((okDu_iff d).1 (askE_ok.1 h).2.1).1 _ (ask_o h) w c
theorem meet_find {l : List Ca} {d : Du} (h : meetE l d = 0) (w c : Int) : findC (meetL l d) w c = if w = d.1 ∧ c = d.2.1 then meetO l d else findC l w c := by
  unfold meetL; rw [if_pos h]
  exact find_set (meetE_ok.1 h).1 ((okDu_iff d).1 (meetE_ok.1 h).2).1 _ (meet_o h) w c
theorem ask_of {l : List Ca} {d : Du} {t : Int} (h : askE l d t = 0) : ofC (askL l d t) d.1 d.2.1 = d.2.2 := by
  unfold ofC
  rw [ask_find h, if_pos ⟨rfl, rfl⟩]
  unfold askO
  split
  · next e => rw [e]; rfl
  · rfl
def max0 (n : Int) : Int := if n ≤ 0 then 0 else n
theorem meet_of {l : List Ca} {d : Du} (h : meetE l d = 0) : ofC (meetL l d) d.1 d.2.1 = max0 (ofC l d.1 d.2.1 - d.2.2) := by
  have h2 := (okDu_iff d).1 (meetE_ok.1 h).2
  unfold ofC
  rw [meet_find h, if_pos ⟨rfl, rfl⟩]
  unfold meetO
  cases e : findC l d.1 d.2.1 with
  | none => unfold amC max0; simp only; rw [if_pos (by omega)]
  | some y =>
    unfold amC max0
    simp only
    by_cases hc : y.2.2.1 - d.2.2 ≤ 0
    · rw [if_pos hc, if_pos hc]
    · rw [if_neg hc, if_neg hc]
/-- Deadlines stay. -/
def keptL (l k : List Ca) : Prop := ∀ x ∈ l, ∀ y, findC k x.1 x.2.1 = some y → y.2.2.2 = x.2.2.2
theorem find_mem2 {l : List Ca} (h : rightCa l = true) {x : Ca} (hx : x ∈ l) : findC l x.1 x.2.1 = some x := by
  have h1 := ((rightCa_iff l).1 h).1 x hx
  rw [find_get h ((okCa_iff x).1 h1).1]
  exact (getL_iff ((rightCa_iff l).1 h).2 _ _).2 ⟨hx, rfl⟩
theorem ask_kept {l : List Ca} {d : Du} {t : Int} (h : askE l d t = 0) : keptL l (askL l d t) := fun x hx y hy => by
  have hr := (askE_ok.1 h).1
  rw [ask_find h] at hy
  have hm := find_mem2 hr hx
  split at hy
  · next hc =>
    unfold askO at hy
    split at hy
    · cases hy
    · cases hy
      rw [← hc.1, ← hc.2, hm]
  · rw [hm] at hy; cases hy; rfl
theorem meet_kept {l : List Ca} {d : Du} (h : meetE l d = 0) : keptL l (meetL l d) := fun x hx y hy => by
  have hr := (meetE_ok.1 h).1
  rw [meet_find h] at hy
  have hm := find_mem2 hr hx
  split at hy
  · next hc =>
    unfold meetO at hy
    rw [← hc.1, ← hc.2, hm] at hy
    simp only at hy
    split at hy
    · cases hy
    · cases hy; rfl
  · rw [hm] at hy; cases hy; rfl
/-- Without some. -/
def withoutL (l : List Ca) (ws : List Int) : List Ca := l.filter fun x => !(ws.any fun w => decide (w = x.1))
theorem without_right {l : List Ca} (h : rightCa l = true) (ws : List Int) : rightCa (withoutL l ws) = true := by
  obtain ⟨h1, h2⟩ := (rightCa_iff l).1 h
  exact (rightCa_iff _).2 ⟨fun x hx => h1 x (List.mem_filter.1 hx).1, List.Pairwise.filter _ h2⟩
theorem without_of (l : List Ca) (w c : Int) : ofC (withoutL l [w]) w c = 0 := by
  have : findC (withoutL l [w]) w c = none := by
    unfold findC
    rw [List.find?_eq_none]
    intro x hx hc
    have h1 := (List.mem_filter.1 hx).2
    obtain ⟨rfl, _⟩ := (isC_iff _ _ _).1 hc
    simp at h1
  unfold ofC
  rw [this]; rfl
theorem without_kept {l : List Ca} (h : rightCa l = true) (ws : List Int) : keptL l (withoutL l ws) := fun x hx y hy => by
  obtain ⟨h1, h2, h3⟩ := find_in hy
  have h4 := (List.mem_filter.1 h1).1
  have h5 := rise_one ((rightCa_iff l).1 h).2 h4 hx (by unfold noCa; rw [h2, h3])
  rw [h5]
def lateL (l : List Ca) (now : Int) : List Ca := l.filter fun x => decide (x.2.2.2 ≤ now)
def leftL (l : List Ca) (now : Int) : List Ca := l.filter fun x => !decide (x.2.2.2 ≤ now)
theorem late_left (l : List Ca) (now : Int) : (lateL l now).length + (leftL l now).length = l.length := by
  unfold lateL leftL
  induction l with
  | nil => rfl
  | cons x l ih =>
    rw [List.filter_cons, List.filter_cons]
    by_cases h : x.2.2.2 ≤ now
    · simp only [h, decide_true, if_true, Bool.not_true, Bool.false_eq_true, if_false, List.length_cons]; omega
    · simp only [h, decide_false, Bool.not_false, Bool.false_eq_true, if_true, if_false, List.length_cons]; omega
theorem late_mono (l : List Ca) {a b : Int} (h : a ≤ b) : (lateL l a).length ≤ (lateL l b).length := by
  unfold lateL
  induction l with
  | nil => exact Nat.le_refl _
  | cons x l ih =>
    rw [List.filter_cons, List.filter_cons]
    by_cases h1 : x.2.2.2 ≤ a
    · rw [if_pos (by simpa using h1), if_pos (by simp; omega), List.length_cons, List.length_cons]; omega
    · rw [if_neg (by simpa using h1)]
      split
      · rw [List.length_cons]; omega
      · exact ih
/-- One call, met by parts. -/
def oneC (d : Du) (t a : Int) : List Ca := if a ≤ 0 then [] else [(d.1, d.2.1, a, t)]
theorem ask_nil {d : Du} {t : Int} (h : okDu d = true) (ht : 0 ≤ t ∧ t ≤ 1099511627776) : askE [] d t = 0 ∧ askL [] d t = oneC d t d.2.2 := by
  have h1 : askE [] d t = 0 := askE_ok.2 ⟨rfl, h, ht⟩
  have h2 := (okDu_iff d).1 h
  refine ⟨h1, ?_⟩
  unfold askL
  rw [if_pos h1]
  unfold askO oneC setL
  by_cases hc : d.2.2 = 0
  · rw [if_pos hc, if_pos (by omega)]; rfl
  · rw [if_neg hc, if_neg (by omega)]; rfl
theorem meet_one {d : Du} {t a p : Int} (h : okDu d = true) (ht : 0 ≤ t ∧ t ≤ 1099511627776) (ha : a ≤ 4611686018427387904) (hp : 0 ≤ p ∧ p ≤ 4611686018427387904) :
    meetE (oneC d t a) (d.1, d.2.1, p) = 0 ∧ meetL (oneC d t a) (d.1, d.2.1, p) = oneC d t (max0 (max0 a - p)) ∧ ofC (oneC d t a) d.1 d.2.1 = max0 a := by
  have h2 := (okDu_iff d).1 h
  have hr : rightCa (oneC d t a) = true := by
    refine (rightCa_iff _).2 ⟨fun x hx => ?_, ?_⟩
    · unfold oneC at hx
      split at hx
      · cases hx
      · obtain rfl := List.mem_singleton.1 hx
        exact (okCa_iff _).2 ⟨h2.1, by simp only; omega, ht⟩
    · unfold oneC; split <;> simp [Rise]
  have he : meetE (oneC d t a) (d.1, d.2.1, p) = 0 := meetE_ok.2 ⟨hr, (okDu_iff _).2 ⟨h2.1, hp⟩⟩
  have hf : findC (oneC d t a) d.1 d.2.1 = if a ≤ 0 then none else some (d.1, d.2.1, a, t) := by
    unfold findC oneC
    split
    · rfl
    · simp [isC]
  refine ⟨he, ?_, ?_⟩
  · unfold meetL
    rw [if_pos he]
    unfold meetO
    simp only
    rw [hf]
    unfold oneC setL max0 noCa
    by_cases hc : a ≤ 0
    · rw [if_pos hc, if_pos hc]
      simp only [if_pos hc]
      rw [if_pos (by split <;> omega)]; rfl
    · rw [if_neg hc, if_neg hc]
      simp only [if_neg hc]
      by_cases hd : a - p ≤ 0
      · rw [if_pos hd, if_pos hd, if_pos (by omega)]; simp
      · rw [if_neg hd, if_neg hd, if_neg hd]; simp
  · unfold ofC amC max0
    rw [hf]
    by_cases hc : a ≤ 0
    · rw [if_pos hc, if_pos hc]
    · rw [if_neg hc, if_neg hc]
end Go.Proofs.Ytaipgcckafbgeaa.NumK
namespace Go.Proofs.Ytaipgcckafbgeaa.NumK
set_option linter.unusedVariables false

/-- Who, the asset, the units. -/
abbrev Pg := Int × Int × Int
abbrev pg0 : Pg := (0, 0, 0)
def noPg (x : Pg) : Int := x.1 * 8 + x.2.1
def okPK (w a : Int) : Bool := wi w 1 16 && wi a 1 6
def okPg (x : Pg) : Bool := okPK x.1 x.2.1 && wi x.2.2 1 1099511627776
def rightPg (l : List Pg) : Bool := rightL okPg noPg pg0 l
def isPg (w a : Int) (x : Pg) : Bool := decide (x.1 = w) && decide (x.2.1 = a)
def findPg (l : List Pg) (w a : Int) : Option Pg := l.find? (isPg w a)
def unP (o : Option Pg) : Int := match o with | some x => x.2.2 | none => 0
def unitsL (l : List Pg) (w a : Int) : Int := unP (findPg l w a)
def changeO (w a n : Int) : Option Pg := if n ≤ 0 then none else some (w, a, n)
def changeE (l : List Pg) (w a u : Int) : Int :=
  if rightPg l then (if okPK w a && wi u (-1099511627776) 1099511627776 then (if unitsL l w a + u < 0 then 13 else (if 1099511627776 < unitsL l w a + u then 1 else 0)) else 3) else 14
def changeL (l : List Pg) (w a u : Int) : List Pg := if changeE l w a u = 0 then setL noPg l (w * 8 + a) (changeO w a (unitsL l w a + u)) else []
/-! ### the worth of collateral -/
def valueV (x : As) (u : Int) : Int := (u * (x.2.2.1 * (10000 - x.2.2.2))).fdiv 10000
def valueE (x : As) (u : Int) : Int := if okAs x && wi u 0 1099511627776 then (if valueV x u ≤ 4611686018427387904 then 0 else 1) else 3
def valueN (x : As) (u : Int) : Int := if valueE x u = 0 then valueV x u else 0
/-- The net worth of one unit, 10000 times. -/
def unitW (x : As) : Int := x.2.2.1 * (10000 - x.2.2.2)
end Go.Proofs.Ytaipgcckafbgeaa.NumK
namespace Go.Proofs.Ytaipgcckafbgeaa.NumK
open Go.RowKit
set_option linter.unusedVariables false

/-- Who, the instrument, the quantity, the cost. -/
abbrev Po := Int × Int × Int × Int
abbrev Ky := Int × Int
abbrev po0 : Po := (0, 0, 0, 0)
/-- The number, the buyer, the seller, the instrument, the quantity, the price; off? -/
abbrev Tr := (Int × Int × Int × Int × Int × Int) × Bool
abbrev tr0 : Tr := ((0, 0, 0, 0, 0, 0), false)
def noTr (t : Tr) : Int := t.1.1

def sizedB (q p : Int) : Bool := wi q 1 1048576 && wi p 1 1073741824
def sizedT (t : Tr) : Bool := sizedB t.1.2.2.2.2.1 t.1.2.2.2.2.2
/-- Both legs, n pieces. -/
def twoL (t : Tr) (n : Int) : List Po := [(t.1.2.1, t.1.2.2.2.1, n, n * t.1.2.2.2.2.2), (t.1.2.2.1, t.1.2.2.2.1, -n, -n * t.1.2.2.2.2.2)]
def legsT (t : Tr) (back : Bool) : List Po := if sizedT t then twoL t (if back then -t.1.2.2.2.2.1 else t.1.2.2.2.2.1) else []

/-! ### the sums of legs -/
def qty (l : List Po) : Int := (l.map (·.2.2.1)).sum
def cst (l : List Po) : Int := (l.map (·.2.2.2)).sum
def okAm (x : Po) : Bool := isMoney x.2.2.1 && isMoney x.2.2.2
def sumPE (l : List Po) : Int := if l.all okAm then (if isMoney (qty l) && isMoney (cst l) then 0 else 1) else 3
def sumPQ (l : List Po) : Int := if sumPE l = 0 then qty l else 0
def sumPC (l : List Po) : Int := if sumPE l = 0 then cst l else 0

/-! ### keys -/
def keyP (x : Po) : Ky := (x.1, x.2.1)
def noK (k : Ky) : Int := k.1 * 8 + k.2
def noPo (x : Po) : Int := x.1 * 8 + x.2.1
def okK (k : Ky) : Bool := wi k.1 1 16 && wi k.2 1 8
/-- The order of keys. -/
def kltB (a b : Ky) : Bool := decide (a.1 < b.1) || (decide (a.1 = b.1) && decide (a.2 < b.2))
/-- The keys, in their order. -/
def gridK : List Ky := (List.range 128).map fun i : Nat => (((i / 8 : Nat) : Int) + 1, ((i % 8 : Nat) : Int) + 1)
/-! ### what lists have of a key, of an instrument -/
def isK (k : Ky) (x : Po) : Bool := decide (x.1 = k.1) && decide (x.2.1 = k.2)
def qK (l : List Po) (k : Ky) : Int := qty (l.filter (isK k))
def cK (l : List Po) (k : Ky) : Int := cst (l.filter (isK k))
def isI (n : Int) (x : Po) : Bool := decide (x.2.1 = n)
def qI (l : List Po) (n : Int) : Int := qty (l.filter (isI n))
def cI (l : List Po) (n : Int) : Int := cst (l.filter (isI n))

/-- An instrument's sum by members. -/
def byW (f : Ky → Int) (n : Int) : Int := ((List.range 16).map fun i : Nat => f ((i : Int) + 1, n)).sum
/-! ### positions out of a function of keys -/
def plOf (f : Ky → Int × Int) (k : Ky) : Option Po := if (f k).1 = 0 ∧ (f k).2 = 0 then none else some (k.1, k.2, (f k).1, (f k).2)
def plF (f : Ky → Int × Int) (m : Nat) : List Po := (gridK.take m).filterMap (plOf f)
def plA (f : Ky → Int × Int) : List Po := gridK.filterMap (plOf f)
/-! ### positions that rise have one of each key -/
def sumK2 (l : List Po) (k : Ky) : Int × Int := (qK l k, cK l k)
/-- The first position of a key. -/
def ofP (l : List Po) (k : Ky) : Po := (l.find? (isK k)).getD (k.1, k.2, 0, 0)
end Go.Proofs.Ytaipgcckafbgeaa.NumK
namespace Go.Proofs.Ytaipgcckafbgeaa.NumK
open Go.RowKit
set_option linter.unusedVariables false

/-- The last number, the trades, the positions. -/
abbrev Bk := Int × List Tr × List Po
abbrev bk0 : Bk := (0, [], [])

def okQ (q : Int) : Bool := wi q (-1099511627776) 1099511627776
def okPo (x : Po) : Bool := okK (keyP x) && okQ x.2.2.1 && isMoney x.2.2.2 && !(decide (x.2.2.1 = 0) && decide (x.2.2.2 = 0))
/-- Of each instrument they add up to 0. -/
def flatI (l : List Po) : Bool := (List.range 8).all fun i : Nat => decide (qI l ((i : Int) + 1) = 0)
def numsT (t : Tr) : Bool := sizedT t && wi t.1.2.1 1 16 && wi t.1.2.2.1 1 16 && !(decide (t.1.2.1 = t.1.2.2.1)) && wi t.1.2.2.2.1 1 8
def okTr (next : Int) (t : Tr) : Bool := numsT t && wi t.1.1 1 next
def rightPs (l : List Po) : Bool := rightL okPo noPo po0 l && flatI l
def rightTs (next : Int) (l : List Tr) : Bool := rightL (okTr next) noTr tr0 l && decide (l.length ≤ 128)
def rightB (b : Bk) : Bool := wi b.1 0 1099511627776 && rightTs b.1 b.2.1 && rightPs b.2.2

/-! ### adding -/
def okLeg (x : Po) : Bool := okK (keyP x) && okAm x
def addF (l legs : List Po) (k : Ky) : Int × Int := (qK l k + qK legs k, cK l k + cK legs k)
def fits (f : Ky → Int × Int) : Bool := gridK.all fun k => okQ (f k).1 && isMoney (f k).2
def addE (b : Bk) (legs : List Po) : Int := if rightB b then (if legs.all okLeg then (if flatI legs then (if fits (addF b.2.2 legs) then 0 else 1) else 12) else 3) else 14
def addB (b : Bk) (legs : List Po) : Bk := if addE b legs = 0 then (b.1, b.2.1, plA (addF b.2.2 legs)) else bk0
/-! ### the legs of a trade -/
/-- Within so much. -/
def wm (n m : Int) : Prop := -m ≤ n ∧ n ≤ m
def sideB (t : Tr) (k : Ky) : Bool := isK k (t.1.2.1, t.1.2.2.2.1, 0, 0)
def sideS (t : Tr) (k : Ky) : Bool := isK k (t.1.2.2.1, t.1.2.2.2.1, 0, 0)
/-- Only what a trade says beside its number counts. -/
def bare (t : Tr) : Int × Int × Int × Int × Int := t.1.2
end Go.Proofs.Ytaipgcckafbgeaa.NumK
namespace Go.Proofs.Ytaipgcckafbgeaa.NumK
open Go.RowKit
set_option linter.unusedVariables false

def worthV (p : Po) (mult price : Int) : Int := mult * (p.2.2.1 * price - p.2.2.2)
def mayW (p : Po) (mult price : Int) : Bool := okQ p.2.2.1 && isMoney p.2.2.2 && wi mult 1 1024 && wi price 0 1073741824
def worthE (p : Po) (mult price : Int) : Int := if mayW p mult price then (if isMoney (worthV p mult price) then 0 else 1) else 3
def worthN (p : Po) (mult price : Int) : Int := if worthE p mult price = 0 then worthV p mult price else 0
/-- The price that was told, or the last one; none: 0. -/
def priceI (i : In) : Int := if i.1.2.2.2.2.1 = 0 then i.1.2.2.2.2.2 else i.1.2.2.2.2.1
def priceE (i : In) : Int := if i.1.2.2.2.2.1 = 0 ∧ i.1.2.2.2.2.2 = 0 then 20 else 0
def instOf (r : Rl) (p : Po) : In := findL noIn in0 r.2.1 p.2.1
def hasI (r : Rl) (p : Po) : Bool := hasL noIn r.2.1 p.2.1
def wonP (r : Rl) (p : Po) : Int := worthV p (instOf r p).1.2.2.1 (priceI (instOf r p))
def costP (r : Rl) (p : Po) : Int := p.2.2.1 * priceI (instOf r p)
/-- What is amiss with a position. -/
def stepM (r : Rl) (p : Po) : Int :=
  if hasI r p then (if priceI (instOf r p) = 0 ∧ p.2.2.1 ≠ 0 then 20 else (if isMoney (wonP r p) && isMoney (costP r p) then 0 else 1)) else 10
/-- The first thing that is amiss. -/
def firstM (r : Rl) : List Po → Int
  | [] => 0
  | p :: l => if stepM r p = 0 then firstM r l else stepM r p
/-- Marked. -/
def markP (r : Rl) (p : Po) : Option Po := if p.2.2.1 = 0 ∧ costP r p = 0 then none else some (p.1, p.2.1, p.2.2.1, costP r p)
def markL (r : Rl) (l : List Po) : List Po := l.filterMap (markP r)
def dueP (r : Rl) (p : Po) : Int × Int × Int := (p.1, (instOf r p).1.2.1, wonP r p)
def duesM (r : Rl) (l : List Po) : List (Int × Int × Int) := l.map (dueP r)
/-! ### what all win -/
/-! ### from price to price -/
end Go.Proofs.Ytaipgcckafbgeaa.NumK
namespace Go.Proofs.Ytaipgcckafbgeaa.NumK
open Go.RowKit
set_option linter.unusedVariables false

/-- Does a position count? -/
def cntG (r : Rl) (who cur : Int) (p : Po) : Bool := hasI r p && (decide (p.1 = who) && decide ((instOf r p).1.2.1 = cur))
def shJ (i : In) (j : Nat) : Int := (shIn i).getD j 0
def lossP (r : Rl) (j : Nat) (p : Po) : Int := -p.2.2.1 * ((instOf r p).1.2.2.1 * shJ (instOf r p) j)
def lossV (r : Rl) (who cur : Int) (l : List Po) (j : Nat) : Int := ((l.filter (cntG r who cur)).map (lossP r j)).sum
def absI (q : Int) : Int := if -q < q then q else -q
def addP (r : Rl) (p : Po) : Int := absI p.2.2.1 * (instOf r p).1.2.2.2.1
def addG (r : Rl) (who cur : Int) (l : List Po) : Int := ((l.filter (cntG r who cur)).map (addP r)).sum
/-- The greatest of the first m losses, or 0. -/
def mostV (f : Nat → Int) : Nat → Int
  | 0 => 0
  | j + 1 => if mostV f j < f j then f j else mostV f j
def margV (r : Rl) (who cur : Int) (l : List Po) : Int := mostV (lossV r who cur l) 6 + addG r who cur l

/-! ### add-ons are not below 0 -/
/-! ### what follows -/
def turnP (p : Po) : Po := (p.1, p.2.1, -p.2.2.1, p.2.2.2)
end Go.Proofs.Ytaipgcckafbgeaa.NumK
namespace Go.Proofs.Ytaipgcckafbgeaa.NumK
open Go.RowKit

/-! ### numbers of 128 bits, by their halves -/
def hi64 (x : Int) : Int := x / 18446744073709551616
def lo64 (x : Int) : Int := x % 18446744073709551616
def isWide (x : Int) : Bool := decide (-170141183460469231731687303715884105728 ≤ x) && decide (x < 170141183460469231731687303715884105728)
def intV (x : Int) : Int := if isMoney x then x else 0
def wsV (x : Int) : Int := if isWide x then x else 0
end Go.Proofs.Ytaipgcckafbgeaa.NumK
namespace Go.Proofs.Ytaipgcckafbgeaa.NumK
open Go.RowKit

end Go.Proofs.Ytaipgcckafbgeaa.NumK
namespace Go.Proofs.Ytaipgcckafbgeaa.NumK
open Go.RowKit

/-- How many cells, and what they read as in a world; what is read stays where the world only grows. -/
structure Sp (α : Type) where
  size : Nat
  rd : World → List Value → α → Prop
  len : ∀ {w : World} {cs : List Value} {a : α}, rd w cs a → cs.length = size
  keep : ∀ {w w' : World} {cs : List Value} {a : α}, rd w cs a → Grew w w' → rd w' cs a

def spInt (k : IntKind) : Sp Int := ⟨1, fun _ cs n => cs = [.int k n] ∧ (Lit.int k n).wf = true, fun h => by rw [h.1]; rfl, fun h _ => h⟩
def spBool : Sp Bool := ⟨1, fun _ cs b => cs = [.bool b], fun h => by rw [h]; rfl, fun h _ => h⟩
def spStr : Sp ByteArray := ⟨1, fun _ cs s => cs = [.string s] ∧ s.size ≤ maxLen, fun h => by rw [h.1]; rfl, fun h _ => h⟩
def spPair {α β : Type} (A : Sp α) (B : Sp β) : Sp (α × β) :=
  ⟨A.size + B.size, fun w cs p => ∃ c1 c2, cs = c1 ++ c2 ∧ A.rd w c1 p.1 ∧ B.rd w c2 p.2,
    fun ⟨_, _, e, h1, h2⟩ => by rw [e, List.length_append, A.len h1, B.len h2],
    fun ⟨c1, c2, e, h1, h2⟩ g => ⟨c1, c2, e, A.keep h1 g, B.keep h2 g⟩⟩

theorem addr_add (b o k : Nat) : (⟨b, o, none⟩ : Addr).add k = ⟨b, o + k, none⟩ := by unfold Addr.add; split <;> simp_all

/-- A slice's elements, wherever they lie. -/
def Row {α : Type} (A : Sp α) (w : World) (ad : Option Addr) (n : Nat) (l : List α) : Prop :=
  l.length = n ∧ (0 < n → ∃ b o, ad = some ⟨b, o, none⟩ ∧ b < w.heap.size ∧ ∀ j (h : j < l.length), ∃ cs, A.rd w cs l[j] ∧ ∀ i, i < A.size → w.cell? ⟨b, o + j * A.size + i, none⟩ = cs[i]?)
theorem Row.keep {α : Type} {A : Sp α} {w w' : World} {ad : Option Addr} {n : Nat} {l : List α} (h : Row A w ad n l) (g : Grew w w') : Row A w' ad n l :=
  ⟨h.1, fun hn => by
    obtain ⟨b, o, e, hb, hc⟩ := h.2 hn
    refine ⟨b, o, e, Nat.lt_of_lt_of_le hb g.size, fun j hj => ?_⟩
    obtain ⟨cs, h1, h2⟩ := hc j hj
    exact ⟨cs, A.keep h1 g, fun i hi => (grew_cell g (p := ⟨b, o + j * A.size + i, none⟩) hb).trans (h2 i hi)⟩⟩
theorem Row.nil {α : Type} (A : Sp α) (w : World) (ad : Option Addr) : Row A w ad 0 [] := ⟨rfl, fun h => absurd h (by omega)⟩
theorem Row.take {α : Type} {A : Sp α} {w : World} {ad : Option Addr} {n k : Nat} {l : List α} (h : Row A w ad n l) (hk : k ≤ n) : Row A w ad k (l.take k) := by
  refine ⟨by have := h.1; simp; omega, fun hp => ?_⟩
  obtain ⟨b, o, e, hb, hc⟩ := h.2 (by omega)
  refine ⟨b, o, e, hb, fun j hj => ?_⟩
  obtain ⟨cs, h1, h2⟩ := hc j (by rw [List.length_take] at hj; omega)
  exact ⟨cs, by rw [List.getElem_take]; exact h1, h2⟩
theorem Row.drop {α : Type} {A : Sp α} {w : World} {ad : Addr} {n k : Nat} {l : List α} (h : Row A w (some ad) n l) (hk : k ≤ n) : Row A w (some (ad.add (k * A.size))) (n - k) (l.drop k) := by
  refine ⟨by have := h.1; simp; omega, fun hp => ?_⟩
  obtain ⟨b, o, e, hb, hc⟩ := h.2 (by omega)
  cases e
  refine ⟨b, o + k * A.size, by rw [addr_add], hb, fun j hj => ?_⟩
  obtain ⟨cs, h1, h2⟩ := hc (k + j) (by rw [List.length_drop] at hj; omega)
  refine ⟨cs, by rw [List.getElem_drop]; exact h1, fun i hi => ?_⟩
  rw [← h2 i hi, Nat.add_mul, Nat.add_assoc o]

def spSlice {α : Type} (A : Sp α) : Sp (List α) :=
  ⟨1, fun w cs l => ∃ ad n c, cs = [.slice ad n c] ∧ Row A w ad n l ∧ (ad = none → c = 0) ∧ n ≤ c ∧ c ≤ maxLen, fun ⟨_, _, _, e, _⟩ => by rw [e]; rfl,
    fun ⟨ad, n, c, e, h, r⟩ g => ⟨ad, n, c, e, h.keep g, r⟩⟩
def spArr {α : Type} (n : Nat) (A : Sp α) : Sp (List α) :=
  ⟨n * A.size, fun w cs l => l.length = n ∧ cs.length = n * A.size ∧ ∀ j (h : j < l.length), A.rd w ((cs.drop (j * A.size)).take A.size) l[j], fun h => h.2.1,
    fun h g => ⟨h.1, h.2.1, fun j hj => A.keep (h.2.2 j hj) g⟩⟩
/-- The same cells, read through a function. -/
def spMap {α β : Type} (f : α → β) (A : Sp α) : Sp β :=
  ⟨A.size, fun w cs b => ∃ a, A.rd w cs a ∧ f a = b, fun ⟨_, h, _⟩ => A.len h, fun ⟨a, h, e⟩ g => ⟨a, A.keep h g, e⟩⟩

/-- What came in at type t reads as A says. -/
def Opens (P : Program) (t : TypeId) {α : Type} (A : Sp α) : Prop :=
  P.cellsOf t = A.size ∧ ∀ {H : Type} (enc : TypeId × Value → H) (w : World) (held : Bool) (fuel : Nat) (cs : List Value) (x : DataW H × List MemPlace), DataW.trod enc P w 0 (fun _ => true) held fuel t cs = some x → ∃ a, A.rd w cs a

theorem opens_int {P : Program} {t : TypeId} {k : IntKind} (ht : P.underlying t = some (.int k)) (hc : P.cellsOf t = 1) : Opens P t (spInt k) :=
  ⟨hc, fun _ _ _ _ _ _ h => by obtain ⟨n, e, _, w⟩ := DataW.trod_int ht h; exact ⟨n, e, w⟩⟩
theorem opens_slice {P : Program} {t e : TypeId} {α : Type} [Inhabited α] {A : Sp α} (ht : P.underlying t = some (.slice e)) (hc : P.cellsOf t = 1) (he : Opens P e A) (hz : A.size ≠ 0) : Opens P t (spSlice A) := by
  refine ⟨hc, fun enc w held fuel cs x h => ?_⟩
  rcases Go.Deep.open_slice ht h with ⟨rfl, _⟩ | ⟨a, len, cap, m, n, D, Pl, rfl, _, hl, hm, hmm, _, hx⟩
  · exact ⟨[], none, 0, 0, rfl, Row.nil A w none, fun _ => rfl, Nat.le_refl _, by unfold maxLen; omega⟩
  · simp only [if_true] at hmm
    subst hmm
    have each : ∀ i, i < m → ∃ y, ∃ cs, A.rd w cs y ∧ ∀ k, k < A.size → w.cell? ((a.add (i * A.size)).add k) = cs[k]? := by
      intro i hi
      obtain ⟨cs', h1, h2⟩ := hx i hi
      rw [he.1] at h1
      obtain ⟨_, hlen, hcell⟩ := World.cells?_some h1
      obtain ⟨y, hy⟩ := he.2 enc w held n cs' _ h2
      exact ⟨y, cs', hy, hcell⟩
    obtain ⟨f, hf⟩ := Go.Deep.choose_lt each
    refine ⟨(List.range len).map f, some a, len, m, rfl, ⟨by simp, fun h0 => ?_⟩, fun h => by (cases h), hl, hm⟩
    obtain ⟨b, o, spot⟩ := a
    obtain ⟨cs0, h1, h2⟩ := hf 0 (by omega)
    have h3 := h2 0 (by omega)
    have hl0 := A.len h1
    have h4 : w.cell? ⟨b, o, spot⟩ = some cs0[0] := by
      rw [List.getElem?_eq_getElem (by omega)] at h3
      simpa [Addr.add] using h3
    have hspot : spot = none := by simpa using World.cell?_spot h4
    subst hspot
    refine ⟨b, o, rfl, by simpa using World.block_lt_of_cell? w _ h4, fun j hj => ?_⟩
    obtain ⟨cs', g1, g2⟩ := hf j (by simp at hj; omega)
    refine ⟨cs', by simpa using g1, fun i hi => ?_⟩
    rw [← g2 i hi, addr_add, addr_add]

/-- A struct's fields, in their order, from a cell on. -/
inductive Fs (P : Program) : List Field → Nat → {α : Type} → Sp α → Prop
  | last {α : Type} {A : Sp α} (f : Field) (off : Nat) (ho : f.offset = off) (h : Opens P f.type A) : Fs P [f] off A
  | cons {α β : Type} {A : Sp α} {B : Sp β} (f : Field) (fs : List Field) (off : Nat) (ho : f.offset = off) (h : Opens P f.type A) (r : Fs P fs (off + A.size) B) : Fs P (f :: fs) off (spPair A B)

theorem Fs.rd {P : Program} {H : Type} {enc : TypeId × Value → H} {w : World} {held : Bool} {n : Nat} {cs : List Value} {fs : List Field} {off : Nat} {α : Type} {A : Sp α} (h : Fs P fs off A)
    (hx : ∀ f ∈ fs, ∃ y, DataW.trod enc P w 0 (fun _ => true) held n f.type ((cs.drop f.offset).take (P.cellsOf f.type)) = some y) : ∃ a, A.rd w ((cs.drop off).take A.size) a := by
  induction h with
  | last f off ho h =>
    obtain ⟨y, hy⟩ := hx f (by simp)
    rw [ho, h.1] at hy
    exact h.2 enc w held n _ y hy
  | @cons α β A B f fs off ho h r ih =>
    obtain ⟨y, hy⟩ := hx f (by simp)
    rw [ho, h.1] at hy
    obtain ⟨a, ha⟩ := h.2 enc w held n _ y hy
    obtain ⟨b, hb⟩ := ih fun g hg => hx g (by simp [hg])
    refine ⟨(a, b), _, _, ?_, ha, hb⟩
    show (cs.drop off).take (A.size + B.size) = _
    rw [List.take_add, List.drop_drop]

theorem opens_struct {P : Program} {t : TypeId} {fs : Array Field} {α : Type} {A : Sp α} (ht : P.underlying t = some (.struct fs)) (hc : P.cellsOf t = A.size) (h : Fs P fs.toList 0 A) : Opens P t A := by
  refine ⟨hc, fun enc w held fuel cs x hx => ?_⟩
  obtain ⟨xs, n, _, _, hl, hlen, hf⟩ := DataW.trod_struct ht hx
  obtain ⟨a, ha⟩ := Fs.rd (enc := enc) (w := w) (held := held) (n := n) (cs := cs) h (fun f hfm => by
    obtain ⟨i, hi, rfl⟩ := List.getElem_of_mem hfm
    have e := hf i fs.toList[i] (by simp)
    rw [e, List.getElem?_eq_getElem (by simp at hi; omega)]
    exact ⟨_, rfl⟩)
  rw [List.drop_zero, List.take_of_length_le (by omega)] at ha
  exact ⟨a, ha⟩

/-- An argument's own value, opened. -/
theorem opens_arg {P : Program} {t : TypeId} {α : Type} {A : Sp α} (h : Opens P t A) {H : Type} {enc : TypeId × Value → H} {w : World} {held : Bool} {v : Value} {d : DataW H} {p : List MemPlace}
    (hd : DataW.Trod enc P w 0 (fun _ => true) held t v d p) : ∃ a, A.rd w v.cells.toList a := by
  obtain ⟨fuel, hf⟩ := hd
  exact h.2 enc w held fuel _ _ hf

theorem arg_slice {P : Program} {t e : TypeId} {α : Type} {A : Sp α} (ht : P.underlying t = some (.slice e)) (h : Opens P t (spSlice A)) {H : Type} {enc : TypeId × Value → H} {w : World} {held : Bool} {v : Value} {d : DataW H} {p : List MemPlace} {r : Reach} {b0 : Nat}
    (hv : Value.okWide P w r b0 t v) (hd : DataW.Trod enc P w 0 (fun _ => true) held t v d p) : ∃ ad n c l, v = .slice ad n c ∧ Row A w ad n l ∧ (ad = none → c = 0) ∧ n ≤ c ∧ c ≤ 9223372036854775807 := by
  obtain ⟨ad, n, c, rfl⟩ := Go.WideShapes.okWide_slice ht hv
  obtain ⟨l, ad', n', c', e, hr, h0, h1, h2⟩ := opens_arg h hd
  simp [Value.cells] at e
  obtain ⟨rfl, rfl, rfl⟩ := e
  exact ⟨ad, n, c, l, rfl, hr, h0, h1, by unfold maxLen at h2; omega⟩
theorem arg_struct {P : Program} {t : TypeId} {fs : Array Field} {α : Type} {A : Sp α} (ht : P.underlying t = some (.struct fs)) (h : Opens P t A) {H : Type} {enc : TypeId × Value → H} {w : World} {held : Bool} {v : Value} {d : DataW H} {p : List MemPlace} {r : Reach} {b0 : Nat}
    (hv : Value.okWide P w r b0 t v) (hd : DataW.Trod enc P w 0 (fun _ => true) held t v d p) : ∃ cs a, v = .agg cs ∧ A.rd w cs.toList a := by
  obtain ⟨cs, rfl, _⟩ := Go.WideShapes.okWide_struct ht hv
  obtain ⟨a, ha⟩ := opens_arg h hd
  exact ⟨cs, a, rfl, by simpa [Value.cells] using ha⟩
end Go.Proofs.Ytaipgcckafbgeaa.NumK
namespace Go.Proofs.Ytaipgcckafbgeaa.NumK
open Go.RowKit

/-- How an element lies in cells. -/
structure En (α : Type) where
  size : Nat
  cs : α → List Value
  len : ∀ a, (cs a).length = size
  one : ∀ a, ∀ v ∈ cs a, v.oneCell' = true
  pos : 0 < size

def En.sp {α : Type} (E : En α) : Sp α := ⟨E.size, fun _ cs a => cs = E.cs a, fun h => by rw [h]; exact E.len _, fun h _ => h⟩

/-- A row of them, wherever it lies. -/
def RowE {α : Type} (E : En α) (w : World) (A : Option Addr) (n : Nat) (l : List α) : Prop := Row E.sp w A n l

theorem Row.imp {α β : Type} {A : Sp α} {B : Sp β} (f : α → β) (hs : B.size = A.size) {w : World} (hf : ∀ cs a, A.rd w cs a → B.rd w cs (f a)) {ad : Option Addr} {n : Nat} {l : List α} (h : Row A w ad n l) : Row B w ad n (l.map f) := by
  refine ⟨by rw [List.length_map]; exact h.1, fun hn => ?_⟩
  obtain ⟨b, o, e, hb, hc⟩ := h.2 hn
  refine ⟨b, o, e, hb, fun j hj => ?_⟩
  obtain ⟨cs, h1, h2⟩ := hc j (by simpa using hj)
  exact ⟨cs, by rw [List.getElem_map]; exact hf _ _ h1, fun i hi => by rw [hs]; exact h2 i (by rw [← hs]; exact hi)⟩

theorem RowE.keep {α : Type} {E : En α} {w w' : World} {ad : Option Addr} {n : Nat} {l : List α} (h : RowE E w ad n l) (g : Grew w w') : RowE E w' ad n l := Row.keep h g
theorem RowE.nil {α : Type} (E : En α) (w : World) (ad : Option Addr) : RowE E w ad 0 [] := Row.nil _ w ad
theorem RowE.len {α : Type} {E : En α} {w : World} {ad : Option Addr} {n : Nat} {l : List α} (h : RowE E w ad n l) : l.length = n := h.1
theorem RowE.at {α : Type} {E : En α} {w : World} {ad : Option Addr} {n : Nat} {l : List α} (h : RowE E w ad n l) (hn : 0 < n) :
    ∃ b o, ad = some ⟨b, o, none⟩ ∧ b < w.heap.size ∧ ∀ j (hj : j < l.length), ∀ i, i < E.size → w.cell? ⟨b, o + j * E.size + i, none⟩ = (E.cs l[j])[i]? := by
  obtain ⟨b, o, e, hb, hc⟩ := h.2 hn
  refine ⟨b, o, e, hb, fun j hj i hi => ?_⟩
  obtain ⟨cs, h1, h2⟩ := hc j hj
  have h1 : cs = E.cs l[j] := h1
  subst h1
  exact h2 i hi
theorem RowE.take {α : Type} {E : En α} {w : World} {ad : Option Addr} {n k : Nat} {l : List α} (h : RowE E w ad n l) (hk : k ≤ n) : RowE E w ad k (l.take k) := Row.take h hk

/-! ### what a call owns -/
def OwnE {α : Type} (E : En α) (w : World) (base : Nat) (t : TypeId) (v : Value) (l : List α) : Prop := w.ownsRow base t E.size v l.length (l.flatMap E.cs)

theorem En.flat_len {α : Type} (E : En α) (l : List α) : (l.flatMap E.cs).length = l.length * E.size := by
  induction l with
  | nil => simp
  | cons x l ih => rw [List.flatMap_cons, List.length_append, ih, E.len, List.length_cons, Nat.succ_mul, Nat.add_comm]
theorem En.flat_at {α : Type} (E : En α) (l : List α) (j : Nat) (h : j < l.length) (i : Nat) (hi : i < E.size) : (l.flatMap E.cs)[j * E.size + i]? = (E.cs l[j])[i]? := by
  induction l generalizing j with
  | nil => simp at h
  | cons x l ih =>
    rw [List.flatMap_cons]
    cases j with
    | zero =>
      rw [Nat.zero_mul, Nat.zero_add, List.getElem?_append_left (by rw [E.len]; exact hi)]; rfl
    | succ j =>
      rw [List.getElem?_append_right (by rw [E.len, Nat.succ_mul]; omega), E.len, show (j + 1) * E.size + i - E.size = j * E.size + i by rw [Nat.succ_mul]; omega, ih j (by simpa using h)]
      rfl

theorem OwnE.nil {α : Type} (E : En α) (w : World) (base : Nat) (t : TypeId) : OwnE E w base t (.slice none 0 0) [] := World.ownsRow_nil _ _ _ _
theorem OwnE.form {α : Type} {E : En α} {w : World} {base : Nat} {t : TypeId} {v : Value} {l : List α} (h : OwnE E w base t v l) :
    ∃ A c, v = .slice A l.length c ∧ RowE E w A l.length l ∧ (A = none → c = 0) ∧ l.length ≤ c ∧ c ≤ maxLen := by
  obtain ⟨_, h⟩ := h
  rcases h with ⟨rfl, h0⟩ | ⟨g, cap, cur, rfl, _, hh, hc, hm, _, ht⟩
  · obtain rfl := List.eq_nil_of_length_eq_zero h0
    exact ⟨none, 0, rfl, RowE.nil E w none, fun _ => rfl, Nat.le_refl _, by unfold maxLen; omega⟩
  · refine ⟨some ⟨g, 0, none⟩, cap, rfl, ⟨rfl, fun hn => ⟨g, 0, rfl, ?_, fun j hj => ⟨E.cs l[j], rfl, fun i hi => ?_⟩⟩⟩, (fun h => by cases h), hc, hm⟩
    · rcases Nat.lt_or_ge g w.heap.size with h1 | h1
      · exact h1
      · rw [Array.getElem?_eq_none h1] at hh; cases hh
    · have hi : i < E.size := hi
      have e1 := E.flat_at l j hj i hi
      have hlt : j * E.size + i < l.length * E.size := by
        have : (j + 1) * E.size ≤ l.length * E.size := Nat.mul_le_mul_right _ hj
        rw [Nat.succ_mul] at this; omega
      rw [← ht, List.getElem?_take, if_pos hlt, Array.getElem?_toList] at e1
      show w.cell? ⟨g, 0 + j * E.size + i, none⟩ = _
      rw [cell_of_row w g _ cur t (0, 0) hh, Nat.zero_add, e1]
theorem OwnE.keep {α : Type} {E : En α} {w w' : World} {base : Nat} {t : TypeId} {v : Value} {l : List α} (h : OwnE E w base t v l) (g : Grew w w') : OwnE E w' base t v l := by
  obtain ⟨hl, h⟩ := h
  refine ⟨hl, ?_⟩
  rcases h with h | ⟨b, cap, cur, hv, hb, hh, r⟩
  · exact Or.inl h
  · refine Or.inr ⟨b, cap, cur, hv, hb, ?_, r⟩
    rw [g.block b ?_]
    · exact hh
    · rcases Nat.lt_or_ge b w.heap.size with h1 | h1
      · exact h1
      · rw [Array.getElem?_eq_none h1] at hh; cases hh
theorem OwnE.mono {α : Type} {E : En α} {w : World} {base base2 : Nat} {t : TypeId} {v : Value} {l : List α} (h : OwnE E w base t v l) (hb : base2 ≤ base) : OwnE E w base2 t v l := by
  obtain ⟨hl, h⟩ := h
  refine ⟨hl, ?_⟩
  rcases h with h | ⟨b, cap, cur, hv, h1, hh, r⟩
  · exact Or.inl h
  · exact Or.inr ⟨b, cap, cur, hv, by omega, hh, r⟩

section
variable {w : World} {ops : Array Oper} {rest : List Oper} {o : Oper} {a : Act} {Q : Exit → Act → World → Prop}
theorem wpList_append_E {α : Type} {E : En α} (hgd : o.guard = none) (s x : Operand) (T t : TypeId) (z : Value) (by' : Nat)
    (ho : o.op = .call { callee := .builtin .append, args := #[s, x], argTypes := #[T, T] })
    (hT : Try.prog.underlying T = some (.slice t)) (hi : (Try.prog.info? t).map (fun i => (i.zero, i.size, i.bytes)) = some (some z, E.size, by')) (hz : z.cells.size = E.size)
    (base : Nat) (v : Value) (l : List α) (hs : a.eval s = v) (hown : OwnE E w base t v l)
    (A : Option Addr) (m c : Nat) (zs : List α) (hx : a.eval x = .slice A m c) (hA : A = none → c = 0) (hR : RowE E w A m zs)
    (hm : l.length + m ≤ maxLen) (hlim : (l.length + m) * by' ≤ 140737488355328) (hbase : base ≤ w.heap.size)
    (h : ∀ v' w', OwnE E w' base t v' (l ++ zs) → Below base w w' → wpList Try.prog ops Q rest (a.put o.dst v') w') : wpList Try.prog ops Q (o :: rest) a w := by
  obtain ⟨i, hi, hz0, hz1, hz2⟩ := info_parts hi
  have hl := hR.len
  cases A with
  | none =>
    have hc := hA rfl
    subst hc
    have hm0 : m = 0 := by
      rcases Nat.eq_zero_or_pos m with h0 | h0
      · exact h0
      · obtain ⟨b, o, he, _⟩ := hR.2 h0
        cases he
    subst hm0
    have hz : zs = [] := List.eq_nil_of_length_eq_zero hl
    subst hz
    exact wpList_append_own_none hgd s x T ho base t i E.size hT hi v l.length _ hs hown hx (h v w (by simpa using hown) (Below.refl _ _))
  | some ad =>
    refine wpList_append_own w hgd s x T ho base t i z E.size by' hT hi hz0 hz1 hz2 hz E.pos v l.length _ hs hown ad m c (zs.flatMap E.cs) hx (by rw [E.flat_len, hl]) (fun j u hu => ?_) (fun u hu => ?_) hm hlim hbase (fun v' w' ho' hg _ => ?_)
    · have hj : j < zs.length * E.size := by
        rw [← E.flat_len]
        rcases Nat.lt_or_ge j (zs.flatMap E.cs).length with h1 | h1
        · exact h1
        · rw [List.getElem?_eq_none h1] at hu; cases hu
      have hq : j / E.size < zs.length := Nat.div_lt_of_lt_mul (by rw [Nat.mul_comm]; exact hj)
      have hdm : j / E.size * E.size + j % E.size = j := by rw [Nat.mul_comm]; exact Nat.div_add_mod j E.size
      have hmod : j % E.size < E.size := Nat.mod_lt _ E.pos
      obtain ⟨b, o2, he, hb, hc⟩ := hR.at (by rw [← hl]; exact Nat.lt_of_le_of_lt (Nat.zero_le _) hq)
      cases he
      have e1 := hc (j / E.size) hq (j % E.size) hmod
      rw [← E.flat_at zs _ hq _ hmod, hdm, hu] at e1
      rw [addr_add, ← e1, Nat.add_assoc, hdm]
    · obtain ⟨y, _, hy⟩ := List.mem_flatMap.1 hu
      exact E.one y u hy
    · refine h v' w' ?_ ((Below.refl base w).grown hg hbase fun k hk => (hown.lt k hk).1)
      show w'.ownsRow base t E.size v' (l ++ zs).length ((l ++ zs).flatMap E.cs)
      rw [List.length_append, hl, List.flatMap_append]
      exact ho'
end
end Go.Proofs.Ytaipgcckafbgeaa.NumK
namespace Go.Proofs.Ytaipgcckafbgeaa.NumK
open Go.RowKit
set_option linter.unusedVariables false

theorem rwithin_any (n lo hi : Int) (w : World) : Calls Try.prog 40 #[.int .i64 n, .int .i64 lo, .int .i64 hi] w fun e w' => e = .returned (.bool (wi n lo hi)) ∧ w = w' := by
  by_cases h1 : lo ≤ n <;> by_cases h2 : n ≤ hi
  all_goals
    (have HR : Hid (wi n lo hi = (decide (lo ≤ n) && decide (n ≤ hi))) := rfl
     generalize wi n lo hi = R at *
     simp only [h1, h2, decide_true, decide_false, Bool.and_true, Bool.and_false] at HR
     go_enter Try.func40, Try.ntmps40
     go_wp2
     go_ret
     exact ⟨ret_b HR.out.symm, rfl⟩)
theorem rwho_any (n : Int) (w : World) : Calls Try.prog 28 #[.int .i64 n] w fun e w' => e = .returned (.bool (wi n 1 16)) ∧ w = w' := by
  have CW := fun w => rwithin_any n 1 16 w
  generalize wi n 1 16 = R at *
  go_enter Try.func28, Try.ntmps28
  go_wp2_with (go_at_call 40; ((with_reducible refine (CW _).mono ?_); rintro e w1 ⟨rfl, rfl⟩))
  go_ret
  exact ⟨rfl, rfl⟩
end Go.Proofs.Ytaipgcckafbgeaa.NumK
namespace Go.Proofs.Ytaipgcckafbgeaa.NumK
open Go.RowKit
set_option linter.unusedVariables false

structure OwnC (w : World) (b : Nat) (cs : List Value) : Prop where
  lt : b < w.heap.size
  c : ∀ i, i < cs.length → w.cell? ⟨b, i, none⟩ = cs[i]?
  f : ∀ i, i < cs.length → w.frozen? ⟨b, i, none⟩ = false

theorem OwnC.new (w : World) (cs : List Value) (t : TypeId) (N : Nat) (hN : N = w.heap.size) : OwnC (w.alloc (.cells cs.toArray t)) N cs := by
  subst hN
  refine ⟨by simp, fun i hi => ?_, fun i hi => ?_⟩
  · rw [World.cell?_alloc_at _ _ _ _ (by simp)]; simp
  · go_simp
theorem OwnC.keep {w w' : World} {b : Nat} {cs : List Value} (h : OwnC w b cs) (g : Grew w w') : OwnC w' b cs :=
  ⟨Nat.lt_of_lt_of_le h.lt g.size, fun i hi => (grew_cell g (p := ⟨b, i, none⟩) h.lt).trans (h.c i hi), fun i hi => (Below.frozen g (p := ⟨b, i, none⟩) h.lt).trans (h.f i hi)⟩
theorem OwnC.below {w w' : World} {b B : Nat} {cs : List Value} (h : OwnC w b cs) (g : Below B w w') (hb : b < B) : OwnC w' b cs :=
  ⟨Nat.lt_of_lt_of_le h.lt g.size, fun i hi => (Below.cell g (p := ⟨b, i, none⟩) hb).trans (h.c i hi), fun i hi => (Below.frozen g (p := ⟨b, i, none⟩) hb).trans (h.f i hi)⟩
theorem OwnC.set {w : World} {b : Nat} {cs : List Value} (h : OwnC w b cs) (i : Nat) (v : Value) (hi : i < cs.length) : OwnC (w.setCell ⟨b, i, none⟩ v) b (cs.set i v) := by
  refine ⟨by simp [World.setCell]; exact h.lt, fun j hj => ?_, fun j hj => ?_⟩
  · rw [List.length_set] at hj
    by_cases hc : i = j
    · subst hc
      rw [World.cell?_setCell_same _ _ _ ((h.c i hi).trans (List.getElem?_eq_getElem hi)), List.getElem?_set_self hi]
    · rw [World.cell?_setCell_other _ _ _ _ (by intro e; simp only [Addr.mk.injEq] at e; omega), h.c j hj, List.getElem?_set_ne hc]
  · rw [List.length_set] at hj
    rw [World.frozen?_setCell]; exact h.f j hj
theorem OwnC.other {w : World} {b : Nat} {cs : List Value} (h : OwnC w b cs) (p : Addr) (v : Value) (hp : p.block ≠ b) : OwnC (w.setCell p v) b cs :=
  ⟨by simp [World.setCell]; exact h.lt, fun i hi => (World.cell?_setCell_other _ _ _ _ (by intro e; apply hp; rw [e])).trans (h.c i hi), fun i hi => by rw [World.frozen?_setCell]; exact h.f i hi⟩
theorem OwnC.drew {w : World} {b : Nat} {cs : List Value} (h : OwnC w b cs) : OwnC w.drew b cs := h.keep (Below.drew (grew_refl w))

/-- Cells of a call's own block, written one behind the other. -/
def putC (w : World) (b : Nat) : Nat → List Value → World
  | _, [] => w
  | o, v :: vs => putC (w.setCell ⟨b, o, none⟩ v) b (o + 1) vs
theorem OwnC.put {b : Nat} : ∀ (vs : List Value) (o : Nat) (w : World) (cs : List Value), OwnC w b cs → o + vs.length ≤ cs.length → OwnC (putC w b o vs) b (cs.take o ++ vs ++ cs.drop (o + vs.length))
  | [], o, w, cs, h, _ => by rw [List.append_nil, List.length_nil, Nat.add_zero, List.take_append_drop]; exact h
  | v :: vs, o, w, cs, h, hl => by
    rw [List.length_cons] at hl
    have h2 := OwnC.put vs (o + 1) _ _ (h.set o v (by omega)) (by rw [List.length_set]; omega)
    have e : (cs.set o v).take (o + 1) ++ vs ++ (cs.set o v).drop (o + 1 + vs.length) = cs.take o ++ (v :: vs) ++ cs.drop (o + (v :: vs).length) := by
      rw [List.take_succ_eq_append_getElem (by rw [List.length_set]; omega), List.getElem_set_self, List.take_set_of_le (Nat.le_refl _), List.drop_set_of_lt (by omega), List.length_cons, show o + 1 + vs.length = o + (vs.length + 1) by omega]
      simp
    rw [← e]; exact h2
/-- All of it. -/
theorem OwnC.all {w : World} {b : Nat} {cs : List Value} (h : OwnC w b cs) (vs : List Value) (hl : vs.length = cs.length) : OwnC (putC w b 0 vs) b vs := by
  have h2 := OwnC.put vs 0 w cs h (by omega)
  rw [List.take_zero, List.nil_append, List.drop_eq_nil_of_le (by omega), List.append_nil] at h2
  exact h2
theorem OwnC.at {w : World} {b : Nat} {cs : List Value} (h : OwnC w b cs) (i : Nat) (v : Value) (hv : cs[i]? = some v) : w.cell? ⟨b, i, none⟩ = some v := by
  rcases Nat.lt_or_ge i cs.length with h1 | h1
  · rw [h.c i h1, hv]
  · rw [List.getElem?_eq_none h1] at hv; cases hv
theorem OwnC.fr {w : World} {b : Nat} {cs : List Value} (h : OwnC w b cs) (i : Nat) (hi : i < cs.length) : w.frozen? ⟨b, i, none⟩ = false := h.f i hi
end Go.Proofs.Ytaipgcckafbgeaa.NumK
namespace Go.Proofs.Ytaipgcckafbgeaa.NumK
open Go.RowKit
set_option linter.unusedVariables false

theorem OwnE.same {α : Type} {E : En α} {w w' : World} {base : Nat} {t : TypeId} {v : Value} {l : List α} (h : OwnE E w base t v l) (hs : ∀ k, base ≤ k → w'.heap[k]? = w.heap[k]?) : OwnE E w' base t v l := by
  obtain ⟨hl, h⟩ := h
  refine ⟨hl, ?_⟩
  rcases h with h | ⟨b, cap, cur, hv, hb, hh, r⟩
  · exact Or.inl h
  · exact Or.inr ⟨b, cap, cur, hv, hb, by rw [hs b hb]; exact hh, r⟩
theorem OwnE.set {α : Type} {E : En α} {w : World} {base : Nat} {t : TypeId} {v : Value} {l : List α} (h : OwnE E w base t v l) (b i : Nat) (u : Value) (hb : b < base) : OwnE E (w.setCell ⟨b, i, none⟩ u) base t v l :=
  h.same fun k hk => Below.heap_setCell _ _ _ _ (by show k ≠ b; omega)
theorem OwnE.put {α : Type} {E : En α} {base b : Nat} {t : TypeId} {v : Value} {l : List α} (hb : b < base) : ∀ (vs : List Value) (o : Nat) (w : World), OwnE E w base t v l → OwnE E (putC w b o vs) base t v l
  | [], _, _, h => h
  | u :: vs, o, w, h => OwnE.put hb vs (o + 1) _ (h.set b o u hb)
end Go.Proofs.Ytaipgcckafbgeaa.NumK
namespace Go.Proofs.Ytaipgcckafbgeaa.NumK
open Go.RowKit
set_option linter.unusedVariables false

theorem own_form {α : Type} {E : En α} {w : World} {base : Nat} {t : TypeId} {A : Option Addr} {n c : Nat} {l : List α} (h : OwnE E w base t (.slice A n c) l) : RowE E w A l.length l ∧ (A = none → c = 0) ∧ l.length ≤ c ∧ c ≤ 9223372036854775807 := by
  obtain ⟨A', c', e, hr, hn, h1, h2⟩ := h.form
  cases e
  exact ⟨hr, hn, h1, by unfold maxLen at h2; omega⟩
theorem OwnE.block {α : Type} {E : En α} {w : World} {base : Nat} {t : TypeId} {A : Option Addr} {n c : Nat} {l : List α} (h : OwnE E w base t (.slice A n c) l) : ∀ x, A = some x → base ≤ x.block ∧ x.block < w.heap.size := by
  intro x hx
  subst hx
  exact World.ownsRow.lt h x.block rfl
/-- Not in one block. -/
def Apart (A B : Option Addr) : Prop := ∀ x y, A = some x → B = some y → x.block ≠ y.block
end Go.Proofs.Ytaipgcckafbgeaa.NumK
namespace Go.Proofs.Ytaipgcckafbgeaa.NumK
open Go.RowKit
set_option linter.unusedVariables false

theorem grew_size {w w' : World} (g : Grew w w') : w.heap.size ≤ w'.heap.size := g.size
end Go.Proofs.Ytaipgcckafbgeaa.NumK
namespace Go.Proofs.Ytaipgcckafbgeaa.NumK
open Go.RowKit

end Go.Proofs.Ytaipgcckafbgeaa.NumK
namespace Go.Proofs.Ytaipgcckafbgeaa.NumK
open Go.RowKit

def sgn (n : Int) : Int := if n < 0 then -1 else 0
end Go.Proofs.Ytaipgcckafbgeaa.NumK
namespace Go.Proofs.Ytaipgcckafbgeaa.NumK
open Go.RowKit

end Go.Proofs.Ytaipgcckafbgeaa.NumK
namespace Go.Proofs.Ytaipgcckafbgeaa.NumK
open Go.RowKit

end Go.Proofs.Ytaipgcckafbgeaa.NumK
namespace Go.Proofs.Ytaipgcckafbgeaa.NumK
open Go.RowKit

end Go.Proofs.Ytaipgcckafbgeaa.NumK
namespace Go.Proofs.Ytaipgcckafbgeaa.NumK
open Go.RowKit

/-! ### a slice of wides -/
def wcells (x : Int) : List Value := [.int .i64 (hi64 x), .int .u64 (lo64 x)]
def Wides (w : World) (A : Option Addr) (n : Nat) (xs : List Int) : Prop :=
  xs.length = n ∧ (0 < n → ∃ b o, A = some ⟨b, o, none⟩ ∧ b < w.heap.size ∧ ∀ j, j < n → w.cell? ⟨b, o + j * 2, none⟩ = some (.int .i64 (hi64 (xs.getD j 0))) ∧ w.cell? ⟨b, o + j * 2 + 1, none⟩ = some (.int .u64 (lo64 (xs.getD j 0))))

section
variable {w : World} {ops : Array Oper} {rest : List Oper} {o : Oper} {a : Act} {Q : Exit → Act → World → Prop}
end

end Go.Proofs.Ytaipgcckafbgeaa.NumK
namespace Go.Proofs.Ytaipgcckafbgeaa.NumK
open Go.RowKit

theorem Wides.keep {w w' : World} {A : Option Addr} {n : Nat} {xs : List Int} (h : Wides w A n xs) (g : Grew w w') : Wides w' A n xs :=
  ⟨h.1, fun hn => by
    obtain ⟨b, o, e, hb, hc⟩ := h.2 hn
    exact ⟨b, o, e, Nat.lt_of_lt_of_le hb g.size, fun j hj => ⟨(grew_cell g (p := ⟨b, o + j * 2, none⟩) hb).trans (hc j hj).1, (grew_cell g (p := ⟨b, o + j * 2 + 1, none⟩) hb).trans (hc j hj).2⟩⟩⟩

def wideE (x : Int) : Int := if isWide x then 0 else 1

end Go.Proofs.Ytaipgcckafbgeaa.NumK
namespace Go.Proofs.Ytaipgcckafbgeaa.NumK
open Go.RowKit
set_option linter.unusedVariables false

/-- A block of the call's own: N cells that may be written. -/
def Slab (w : World) (g N : Nat) : Prop := g < w.heap.size ∧ ∀ k, k < N → (∃ v, w.cell? ⟨g, k, none⟩ = some v) ∧ w.frozen? ⟨g, k, none⟩ = false
theorem Slab.keep {w w' : World} {g N : Nat} (h : Slab w g N) (r : Grew w w') : Slab w' g N :=
  ⟨Nat.lt_of_lt_of_le h.1 r.size, fun k hk => by
    obtain ⟨⟨v, hv⟩, hf⟩ := h.2 k hk
    exact ⟨⟨v, (grew_cell r (p := ⟨g, k, none⟩) h.1).trans hv⟩, (Below.frozen r (p := ⟨g, k, none⟩) h.1).trans hf⟩⟩
theorem Slab.set {w : World} {g N : Nat} (h : Slab w g N) (b k : Nat) (x : Value) : Slab (w.setCell ⟨b, k, none⟩ x) g N :=
  ⟨by simpa [World.setCell] using h.1, fun i hi => by
    obtain ⟨⟨v, hv⟩, hf⟩ := h.2 i hi
    refine ⟨?_, by rw [World.frozen?_setCell]; exact hf⟩
    by_cases e : (⟨b, k, none⟩ : Addr) = ⟨g, i, none⟩
    · rw [e]; exact ⟨x, World.cell?_setCell_same _ _ _ hv⟩
    · exact ⟨v, by rw [World.cell?_setCell_other _ _ _ _ e]; exact hv⟩⟩
theorem OwnE.slab {α : Type} {E : En α} {w : World} {base : Nat} {t : TypeId} {v : Value} {l : List α} (h : OwnE E w base t v l) :
    ∃ A c, v = .slice A l.length c ∧ (l.length = 0 ∨ ∃ g, A = some ⟨g, 0, none⟩ ∧ base ≤ g ∧ Slab w g (l.length * E.size)) := by
  obtain ⟨hl, h⟩ := h
  rcases h with ⟨rfl, h0⟩ | ⟨g, cap, cur, rfl, hb, hh, hc, hm, hs, ht⟩
  · rw [h0]; exact ⟨none, 0, rfl, Or.inl rfl⟩
  · refine ⟨some ⟨g, 0, none⟩, cap, rfl, Or.inr ⟨g, rfl, hb, ?_, fun k hk => ⟨?_, ?_⟩⟩⟩
    · rcases Nat.lt_or_ge g w.heap.size with h1 | h1
      · exact h1
      · rw [Array.getElem?_eq_none h1] at hh; cases hh
    · rw [cell_of_row w g _ cur t (0, 0) hh]
      have hlt : k < cur.toList.length := by
        have e1 : (cur.toList.take (l.length * E.size)).length = l.length * E.size := by rw [ht, E.flat_len]
        rw [List.length_take] at e1; omega
      rw [← Array.getElem?_toList, List.getElem?_eq_getElem hlt]
      exact ⟨_, rfl⟩
    · unfold World.frozen?
      simp [hh]


/-! ### what has been mapped so far -/
def preL {α : Type} (f : α → α) (l : List α) (j : Nat) : List α := (l.take j).map f ++ l.drop j
end Go.Proofs.Ytaipgcckafbgeaa.NumK
namespace Go.Proofs.Ytaipgcckafbgeaa.NumK
open Go.RowKit

end Go.Proofs.Ytaipgcckafbgeaa.NumK
namespace Go.Proofs.Ytaipgcckafbgeaa.NumK
open Go.RowKit

end Go.Proofs.Ytaipgcckafbgeaa.NumK
namespace Go.Proofs.Ytaipgcckafbgeaa.NumK
open Go.RowKit

end Go.Proofs.Ytaipgcckafbgeaa.NumK
