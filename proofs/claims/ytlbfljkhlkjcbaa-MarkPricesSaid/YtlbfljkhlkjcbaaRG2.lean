/- Rolls: rising lists; who is found, what is put. -/
import Derived.Test.YtlbfljkhlkjcbaaRG1
import Derived.OpenShut
import Derived.ChangeArms
import Derived.Deep.Slices
import Derived.Laws.AppendOwnNone
import Derived.Laws.Bits64b
import Derived.Lib.Mul64
import Derived.Deep.QuietTactic
import Derived.BigQuiet
import Derived.Deep.DeepCutAuto
import Derived.Deep.Light
import Derived.Laws.Externs
namespace Go.Proofs.Ytlbfljkhlkjcbaa.NumK

/-- The number, the state, the need. -/
abbrev Mb := Int × Int × Int
/-- The number, the currency, the price, the cut. -/
abbrev As := Int × Int × Int × Int
/-- The number, the currency, the multiplier, the add-on, the price that was told, the last one; the shifts. -/
abbrev In := (Int × Int × Int × Int × Int × Int) × (Int × Int × Int × Int × Int × Int)
abbrev Rl := List Mb × List In × List As
abbrev mb0 : Mb := (0, 0, 0)
abbrev as0 : As := (0, 0, 0, 0)
abbrev in0 : In := ((0, 0, 0, 0, 0, 0), (0, 0, 0, 0, 0, 0))

def noMb (x : Mb) : Int := x.1
def noIn (x : In) : Int := x.1.1
def noAs (x : As) : Int := x.1

def wi (n lo hi : Int) : Bool := decide (lo ≤ n) && decide (n ≤ hi)
theorem wi_iff (n lo hi : Int) : wi n lo hi = true ↔ lo ≤ n ∧ n ≤ hi := by simp [wi]
def okMb (x : Mb) : Bool := wi x.1 1 16 && wi x.2.1 1 3 && wi x.2.2 0 4611686018427387904
def okAs (x : As) : Bool := wi x.1 1 6 && wi x.2.1 0 2 && wi x.2.2.1 1 1073741824 && wi x.2.2.2 0 10000
def okSh (n : Int) : Bool := wi n (-1073741824) 1073741824
def shIn (x : In) : List Int := [x.2.1, x.2.2.1, x.2.2.2.1, x.2.2.2.2.1, x.2.2.2.2.2.1, x.2.2.2.2.2.2]
def okIn6 (x : In) : Bool := wi x.1.1 1 8 && wi x.1.2.1 0 2 && wi x.1.2.2.1 1 1024 && wi x.1.2.2.2.1 0 1073741824 && wi x.1.2.2.2.2.1 0 1073741824 && wi x.1.2.2.2.2.2 0 1073741824
def okIn (x : In) : Bool := (shIn x).all okSh && okIn6 x

section
variable {α : Type}

/-! ### lists that rise -/
def Rise (no : α → Int) (l : List α) : Prop := l.Pairwise fun x y => no x < no y

def stepOK (ok : α → Bool) (no : α → Int) (d : α) (l : List α) (j : Nat) : Bool := ok (l.getD j d) && (decide (j = 0) || decide (no (l.getD (j - 1) d) < no (l.getD j d)))
def rightL (ok : α → Bool) (no : α → Int) (d : α) (l : List α) : Bool := (List.range l.length).all (stepOK ok no d l)

theorem range_all_succ (p : Nat → Bool) (j : Nat) : (List.range (j + 1)).all p = ((List.range j).all p && p j) := by
  rw [List.range_succ, List.all_append]; simp
theorem range_all_no (p : Nat → Bool) (j n : Nat) (h : j < n) (hp : p j = false) : false = (List.range n).all p := by
  symm
  rw [List.all_eq_false]
  exact ⟨j, List.mem_range.2 h, by rw [hp]; decide⟩

theorem getD_mem (l : List α) (d : α) (j : Nat) (h : j < l.length) : l.getD j d ∈ l := by
  rw [show l.getD j d = l[j] by simp [List.getD, h]]; exact List.getElem_mem h
theorem getD_at (l : List α) (d : α) (j : Nat) (h : j < l.length) : l.getD j d = l[j] := by simp [List.getD, h]

theorem rise_of_steps (no : α → Int) (d : α) (l : List α) (h : ∀ j, 0 < j → j < l.length → no (l.getD (j - 1) d) < no (l.getD j d)) : Rise no l := by
  unfold Rise
  rw [List.pairwise_iff_getElem]
  intro i j hi hj hij
  induction j with
  | zero => omega
  | succ j ih =>
    have h1 := h (j + 1) (by omega) hj
    rw [getD_at _ _ _ hj, show j + 1 - 1 = j by omega, getD_at _ _ _ (by omega)] at h1
    by_cases hc : i = j
    · subst hc; exact h1
    · exact Int.lt_trans (ih (by omega) (by omega)) h1

theorem rightL_iff (ok : α → Bool) (no : α → Int) (d : α) (l : List α) : rightL ok no d l = true ↔ (∀ x ∈ l, ok x = true) ∧ Rise no l := by
  unfold rightL
  rw [List.all_eq_true]
  constructor
  · intro h
    refine ⟨fun x hx => ?_, rise_of_steps no d l fun j h0 hj => ?_⟩
    · obtain ⟨j, hj, rfl⟩ := List.getElem_of_mem hx
      have h1 := h j (List.mem_range.2 hj)
      unfold stepOK at h1
      rw [getD_at _ _ _ hj] at h1
      simp only [Bool.and_eq_true] at h1
      exact h1.1
    · have h1 := h j (List.mem_range.2 hj)
      unfold stepOK at h1
      simp only [Bool.and_eq_true, Bool.or_eq_true, decide_eq_true_eq] at h1
      rcases h1.2 with h2 | h2
      · omega
      · exact h2
  · rintro ⟨h1, h2⟩ j hj
    have hj := List.mem_range.1 hj
    unfold stepOK
    simp only [Bool.and_eq_true, Bool.or_eq_true, decide_eq_true_eq]
    refine ⟨h1 _ (getD_mem l d j hj), ?_⟩
    by_cases h0 : j = 0
    · exact Or.inl h0
    · right
      rw [getD_at _ _ _ hj, getD_at _ _ _ (by omega)]
      exact List.pairwise_iff_getElem.1 h2 (j - 1) j (by omega) hj (by omega)

/-- Two lists that rise, and have the same in them, are one. -/
theorem rise_ext (no : α → Int) : ∀ (l m : List α), Rise no l → Rise no m → (∀ y, y ∈ l ↔ y ∈ m) → l = m
  | [], [], _, _, _ => rfl
  | [], y :: m, _, _, h => by have := (h y).2 (by simp); simp at this
  | x :: l, [], _, _, h => by have := (h x).1 (by simp); simp at this
  | x :: l, y :: m, hl, hm, h => by
    have h1 := List.pairwise_cons.1 hl
    have h2 := List.pairwise_cons.1 hm
    have hxy : x = y := by
      have a1 : x ∈ y :: m := (h x).1 (by simp)
      have a2 : y ∈ x :: l := (h y).2 (by simp)
      rcases List.mem_cons.1 a1 with e | a1
      · exact e
      · rcases List.mem_cons.1 a2 with e | a2
        · exact e.symm
        · have := h2.1 x a1
          have := h1.1 y a2
          omega
    subst hxy
    congr 1
    refine rise_ext no l m h1.2 h2.2 fun z => ⟨fun hz => ?_, fun hz => ?_⟩
    · rcases List.mem_cons.1 ((h z).1 (List.mem_cons_of_mem _ hz)) with e | e
      · have := h1.1 z hz; rw [e] at this; omega
      · exact e
    · rcases List.mem_cons.1 ((h z).2 (List.mem_cons_of_mem _ hz)) with e | e
      · have := h2.1 z hz; rw [e] at this; omega
      · exact e

theorem rise_one {no : α → Int} {l : List α} (h : Rise no l) {x y : α} (hx : x ∈ l) (hy : y ∈ l) (he : no x = no y) : x = y := by
  obtain ⟨i, hi, rfl⟩ := List.getElem_of_mem hx
  obtain ⟨j, hj, rfl⟩ := List.getElem_of_mem hy
  have hp := List.pairwise_iff_getElem.1 h
  rcases Nat.lt_trichotomy i j with h1 | h1 | h1
  · have := hp i j hi hj h1; omega
  · subst h1; rfl
  · have := hp j i hj hi h1; omega

/-! ### who is found -/
def hasL (no : α → Int) (l : List α) (n : Int) : Bool := l.any fun x => decide (no x = n)
def findL (no : α → Int) (d : α) (l : List α) (n : Int) : α := (l.find? fun x => decide (no x = n)).getD d

theorem hasL_iff (no : α → Int) (l : List α) (n : Int) : hasL no l n = true ↔ ∃ x ∈ l, no x = n := by
  unfold hasL; rw [List.any_eq_true]; simp
theorem find_yes (no : α → Int) (d : α) (l : List α) (n : Int) (j : Nat) (hj : j < l.length) (h0 : ∀ i, i < j → no (l.getD i d) ≠ n) (h1 : no (l.getD j d) = n) : hasL no l n = true ∧ findL no d l n = l.getD j d := by
  refine ⟨(hasL_iff no l n).2 ⟨_, getD_mem l d j hj, h1⟩, ?_⟩
  unfold findL
  have e : l.find? (fun x => decide (no x = n)) = some l[j] := by
    rw [List.find?_eq_some_iff_getElem]
    refine ⟨by rw [← getD_at l d j hj]; simpa using h1, j, hj, rfl, fun i hi => ?_⟩
    have := h0 i hi
    rw [getD_at l d i (by omega)] at this
    simpa using this
  rw [e, getD_at l d j hj]; rfl
theorem find_no (no : α → Int) (d : α) (l : List α) (n : Int) (h0 : ∀ i, i < l.length → no (l.getD i d) ≠ n) : hasL no l n = false ∧ findL no d l n = d := by
  have h1 : ∀ x ∈ l, no x ≠ n := fun x hx => by
    obtain ⟨i, hi, rfl⟩ := List.getElem_of_mem hx
    have := h0 i hi
    rwa [getD_at l d i hi] at this
  refine ⟨?_, ?_⟩
  · unfold hasL; rw [List.any_eq_false]; intro x hx; simpa using h1 x hx
  · unfold findL
    have e : l.find? (fun x => decide (no x = n)) = none := by rw [List.find?_eq_none]; intro x hx; simpa using h1 x hx
    rw [e]; rfl
theorem find_mem (no : α → Int) (d : α) (l : List α) (n : Int) (h : hasL no l n = true) : findL no d l n ∈ l ∧ no (findL no d l n) = n := by
  obtain ⟨x, hx, hn⟩ := (hasL_iff no l n).1 h
  unfold findL
  cases e : l.find? (fun x => decide (no x = n)) with
  | none => rw [List.find?_eq_none] at e; have := e x hx; simp [hn] at this
  | some y =>
    have h1 := List.find?_some e
    have h2 := List.mem_of_find?_eq_some e
    exact ⟨h2, by simpa using h1⟩
theorem find_at (no : α → Int) (d : α) (l : List α) (n : Int) (h : hasL no l n = true) : ∃ j, j < l.length ∧ l.getD j d = findL no d l n ∧ no (l.getD j d) = n := by
  obtain ⟨h1, h2⟩ := find_mem no d l n h
  obtain ⟨j, hj, e⟩ := List.getElem_of_mem h1
  exact ⟨j, hj, by rw [getD_at l d j hj, e], by rw [getD_at l d j hj, e, h2]⟩
/-! ### what is put -/
def putL (no : α → Int) (l : List α) (x : α) : List α := l.filter (fun y => decide (no y < no x)) ++ x :: l.filter (fun y => decide (no x < no y))

/-! ### how long a list may be -/
/-! ### as the document collects them -/
def collL (no : α → Int) (d : α) (l : List α) (x : α) (k : Nat) : List α :=
  (List.range k).flatMap fun i : Nat => if (i : Int) + 1 = no x then [x] else if hasL no l ((i : Int) + 1) = true then [findL no d l ((i : Int) + 1)] else []
end
end Go.Proofs.Ytlbfljkhlkjcbaa.NumK
namespace Go.Proofs.Ytlbfljkhlkjcbaa.NumK
open Go.RowKit
set_option linter.unusedVariables false

/-- Who, the instrument, the quantity, the cost. -/
abbrev Po := Int × Int × Int × Int
abbrev Ky := Int × Int
abbrev po0 : Po := (0, 0, 0, 0)
/-- The number, the buyer, the seller, the instrument, the quantity, the price; off? -/
abbrev Tr := (Int × Int × Int × Int × Int × Int) × Bool
abbrev tr0 : Tr := ((0, 0, 0, 0, 0, 0), false)
def noTr (t : Tr) : Int := t.1.1

def sizedB (q p : Int) : Bool := wi q 1 1048576 && wi p 1 1073741824
def sizedT (t : Tr) : Bool := sizedB t.1.2.2.2.2.1 t.1.2.2.2.2.2
theorem sizedT_iff (t : Tr) : sizedT t = true ↔ (1 ≤ t.1.2.2.2.2.1 ∧ t.1.2.2.2.2.1 ≤ 1048576) ∧ 1 ≤ t.1.2.2.2.2.2 ∧ t.1.2.2.2.2.2 ≤ 1073741824 := by
  unfold sizedT sizedB; rw [Bool.and_eq_true, wi_iff, wi_iff]
/-- Both legs, n pieces. -/
def twoL (t : Tr) (n : Int) : List Po := [(t.1.2.1, t.1.2.2.2.1, n, n * t.1.2.2.2.2.2), (t.1.2.2.1, t.1.2.2.2.1, -n, -n * t.1.2.2.2.2.2)]
def legsT (t : Tr) (back : Bool) : List Po := if sizedT t then twoL t (if back then -t.1.2.2.2.2.1 else t.1.2.2.2.2.1) else []

/-! ### the sums of legs -/
def qty (l : List Po) : Int := (l.map (·.2.2.1)).sum
def cst (l : List Po) : Int := (l.map (·.2.2.2)).sum
def okAm (x : Po) : Bool := isMoney x.2.2.1 && isMoney x.2.2.2
def sumPE (l : List Po) : Int := if l.all okAm then (if isMoney (qty l) && isMoney (cst l) then 0 else 1) else 3
def sumPQ (l : List Po) : Int := if sumPE l = 0 then qty l else 0
def sumPC (l : List Po) : Int := if sumPE l = 0 then cst l else 0

theorem sum_app (l m : List Int) : (l ++ m).sum = l.sum + m.sum := by
  induction l with
  | nil => simp
  | cons x l ih => rw [List.cons_append, List.sum_cons, List.sum_cons, ih, Int.add_assoc]
theorem qty_app (l m : List Po) : qty (l ++ m) = qty l + qty m := by unfold qty; rw [List.map_append, sum_app]
theorem cst_app (l m : List Po) : cst (l ++ m) = cst l + cst m := by unfold cst; rw [List.map_append, sum_app]
theorem qty_nil : qty [] = 0 := rfl
theorem cst_nil : cst [] = 0 := rfl
theorem qty_cons (x : Po) (l : List Po) : qty (x :: l) = x.2.2.1 + qty l := by unfold qty; rw [List.map_cons, List.sum_cons]
theorem cst_cons (x : Po) (l : List Po) : cst (x :: l) = x.2.2.2 + cst l := by unfold cst; rw [List.map_cons, List.sum_cons]
theorem mul_in (q p : Int) (h : (1 ≤ q ∧ q ≤ 1048576) ∧ 1 ≤ p ∧ p ≤ 1073741824) : 0 ≤ q * p ∧ q * p ≤ 1125899906842624 := by
  refine ⟨Int.mul_nonneg (by omega) (by omega), ?_⟩
  calc q * p ≤ 1048576 * p := Int.mul_le_mul_of_nonneg_right (by omega) (by omega)
    _ ≤ 1048576 * 1073741824 := Int.mul_le_mul_of_nonneg_left (by omega) (by omega)

/-! ### keys -/
def keyP (x : Po) : Ky := (x.1, x.2.1)
def noK (k : Ky) : Int := k.1 * 8 + k.2
def noPo (x : Po) : Int := x.1 * 8 + x.2.1
def okK (k : Ky) : Bool := wi k.1 1 16 && wi k.2 1 8
theorem okK_iff (k : Ky) : okK k = true ↔ (1 ≤ k.1 ∧ k.1 ≤ 16) ∧ 1 ≤ k.2 ∧ k.2 ≤ 8 := by unfold okK; rw [Bool.and_eq_true, wi_iff, wi_iff]
/-- The order of keys. -/
def kltB (a b : Ky) : Bool := decide (a.1 < b.1) || (decide (a.1 = b.1) && decide (a.2 < b.2))
theorem klt_no {a b : Ky} (ha : okK a = true) (hb : okK b = true) : kltB a b = decide (noK a < noK b) := by
  obtain ⟨a1, a2⟩ := a
  obtain ⟨b1, b2⟩ := b
  rw [okK_iff] at ha hb
  unfold noK kltB
  simp only at ha hb ⊢
  rw [Bool.eq_iff_iff]
  simp only [Bool.or_eq_true, Bool.and_eq_true, decide_eq_true_eq]
  omega

/-- The keys, in their order. -/
def gridK : List Ky := (List.range 128).map fun i : Nat => (((i / 8 : Nat) : Int) + 1, ((i % 8 : Nat) : Int) + 1)
theorem grid_len : gridK.length = 128 := by unfold gridK; simp
theorem mem_grid (k : Ky) : k ∈ gridK ↔ okK k = true := by
  rw [okK_iff]
  unfold gridK
  rw [List.mem_map]
  constructor
  · rintro ⟨i, hi, rfl⟩
    have := List.mem_range.1 hi
    simp only
    omega
  · rintro ⟨h1, h2⟩
    obtain ⟨a, b⟩ := k
    simp only at h1 h2
    refine ⟨((a - 1) * 8 + (b - 1)).toNat, List.mem_range.2 (by omega), ?_⟩
    simp only [Prod.mk.injEq]
    omega
theorem grid_rise : gridK.Pairwise fun a b => noK a < noK b := by
  unfold gridK
  rw [List.pairwise_map]
  refine List.Pairwise.imp (R := fun i j : Nat => i < j) (fun {i j} h => ?_) List.pairwise_lt_range
  unfold noK
  simp only
  omega

/-! ### what lists have of a key, of an instrument -/
def isK (k : Ky) (x : Po) : Bool := decide (x.1 = k.1) && decide (x.2.1 = k.2)
theorem isK_iff (k : Ky) (x : Po) : isK k x = true ↔ keyP x = k := by
  obtain ⟨a, b⟩ := k
  unfold isK keyP
  simp
def qK (l : List Po) (k : Ky) : Int := qty (l.filter (isK k))
def cK (l : List Po) (k : Ky) : Int := cst (l.filter (isK k))
def isI (n : Int) (x : Po) : Bool := decide (x.2.1 = n)
def qI (l : List Po) (n : Int) : Int := qty (l.filter (isI n))
def cI (l : List Po) (n : Int) : Int := cst (l.filter (isI n))

theorem qK_app (l m : List Po) (k : Ky) : qK (l ++ m) k = qK l k + qK m k := by unfold qK; rw [List.filter_append, qty_app]
theorem cK_app (l m : List Po) (k : Ky) : cK (l ++ m) k = cK l k + cK m k := by unfold cK; rw [List.filter_append, cst_app]
theorem qK_cons (x : Po) (l : List Po) (k : Ky) : qK (x :: l) k = (if isK k x then x.2.2.1 else 0) + qK l k := by
  unfold qK; rw [List.filter_cons]; split
  · rw [qty_cons]
  · simp
theorem cK_cons (x : Po) (l : List Po) (k : Ky) : cK (x :: l) k = (if isK k x then x.2.2.2 else 0) + cK l k := by
  unfold cK; rw [List.filter_cons]; split
  · rw [cst_cons]
  · simp
theorem qI_cons (x : Po) (l : List Po) (n : Int) : qI (x :: l) n = (if isI n x then x.2.2.1 else 0) + qI l n := by
  unfold qI; rw [List.filter_cons]; split
  · rw [qty_cons]
  · simp
theorem cI_cons (x : Po) (l : List Po) (n : Int) : cI (x :: l) n = (if isI n x then x.2.2.2 else 0) + cI l n := by
  unfold cI; rw [List.filter_cons]; split
  · rw [cst_cons]
  · simp
theorem qK_nil (k : Ky) : qK [] k = 0 := rfl
theorem cK_nil (k : Ky) : cK [] k = 0 := rfl
theorem qI_nil (n : Int) : qI [] n = 0 := rfl
theorem cI_nil (n : Int) : cI [] n = 0 := rfl

/-- An instrument's sum by members. -/
def byW (f : Ky → Int) (n : Int) : Int := ((List.range 16).map fun i : Nat => f ((i : Int) + 1, n)).sum
theorem byW_congr {f g : Ky → Int} {n : Int} (h : ∀ w : Int, 1 ≤ w → w ≤ 16 → f (w, n) = g (w, n)) : byW f n = byW g n := by
  unfold byW
  congr 1
  refine List.map_congr_left fun i hi => ?_
  have := List.mem_range.1 hi
  exact h _ (by omega) (by omega)
theorem sum_map_add (f g : Nat → Int) : ∀ l : List Nat, (l.map fun i => f i + g i).sum = (l.map f).sum + (l.map g).sum
  | [] => rfl
  | x :: l => by simp only [List.map_cons, List.sum_cons]; rw [sum_map_add f g l]; omega
theorem byW_add (f g : Ky → Int) (n : Int) : byW (fun k => f k + g k) n = byW f n + byW g n := sum_map_add _ _ _
theorem sum_one (a : Int) (v : Int) : ∀ m : Nat, ((List.range m).map fun i : Nat => if a = (i : Int) + 1 then v else 0).sum = if 1 ≤ a ∧ a ≤ m then v else 0
  | 0 => by rw [if_neg (by omega)]; rfl
  | m + 1 => by
    rw [List.range_succ, List.map_append, sum_app, sum_one a v m]
    simp only [List.map_cons, List.map_nil, List.sum_cons, List.sum_nil]
    by_cases h : a = (m : Int) + 1
    · rw [if_pos h, if_neg (by omega), if_pos (by omega)]; omega
    · rw [if_neg h]
      by_cases h2 : 1 ≤ a ∧ a ≤ (m : Int)
      · rw [if_pos h2, if_pos (by omega)]; omega
      · rw [if_neg h2, if_neg (by omega)]; rfl
theorem sum_zeros : ∀ l : List Nat, (l.map fun _ => (0 : Int)).sum = 0
  | [] => rfl
  | x :: l => by rw [List.map_cons, List.sum_cons, sum_zeros l]; rfl
theorem qI_byW (l : List Po) (n : Int) (h : ∀ x ∈ l, 1 ≤ x.1 ∧ x.1 ≤ 16) : qI l n = byW (qK l) n := by
  induction l with
  | nil => unfold byW; simp only [qK_nil, qI_nil]; rw [sum_zeros]
  | cons x l ih =>
    rw [qI_cons, ih fun y hy => h y (List.mem_cons_of_mem _ hy), byW_congr (f := qK (x :: l)) (g := fun k => (if isK k x then x.2.2.1 else 0) + qK l k) fun w _ _ => qK_cons x l _, byW_add]
    congr 1
    have hx := h x (by simp)
    unfold byW isI isK
    by_cases hn : x.2.1 = n
    · simp only [hn, decide_true, Bool.and_true, decide_eq_true_eq, if_true]
      rw [sum_one, if_pos (by omega)]
    · simp only [hn, decide_false, Bool.and_false, Bool.false_eq_true, if_false]
      rw [sum_zeros]
theorem cI_byW (l : List Po) (n : Int) (h : ∀ x ∈ l, 1 ≤ x.1 ∧ x.1 ≤ 16) : cI l n = byW (cK l) n := by
  induction l with
  | nil => unfold byW; simp only [cK_nil, cI_nil]; rw [sum_zeros]
  | cons x l ih =>
    rw [cI_cons, ih fun y hy => h y (List.mem_cons_of_mem _ hy), byW_congr (f := cK (x :: l)) (g := fun k => (if isK k x then x.2.2.2 else 0) + cK l k) fun w _ _ => cK_cons x l _, byW_add]
    congr 1
    have hx := h x (by simp)
    unfold byW isI isK
    by_cases hn : x.2.1 = n
    · simp only [hn, decide_true, Bool.and_true, decide_eq_true_eq, if_true]
      rw [sum_one, if_pos (by omega)]
    · simp only [hn, decide_false, Bool.and_false, Bool.false_eq_true, if_false]
      rw [sum_zeros]

/-! ### positions out of a function of keys -/
def plOf (f : Ky → Int × Int) (k : Ky) : Option Po := if (f k).1 = 0 ∧ (f k).2 = 0 then none else some (k.1, k.2, (f k).1, (f k).2)
def plF (f : Ky → Int × Int) (m : Nat) : List Po := (gridK.take m).filterMap (plOf f)
def plA (f : Ky → Int × Int) : List Po := gridK.filterMap (plOf f)
theorem pl_all (f : Ky → Int × Int) : plF f 128 = plA f := by unfold plF plA; rw [List.take_of_length_le (by rw [grid_len]; omega)]
theorem mem_pl (f : Ky → Int × Int) (y : Po) : y ∈ plA f ↔ okK (keyP y) = true ∧ f (keyP y) = (y.2.2.1, y.2.2.2) ∧ ¬ (y.2.2.1 = 0 ∧ y.2.2.2 = 0) := by
  unfold plA
  rw [List.mem_filterMap]
  constructor
  · rintro ⟨k, hk, e⟩
    unfold plOf at e
    split at e
    · cases e
    · next h =>
      cases e
      refine ⟨(mem_grid _).1 hk, rfl, h⟩
  · rintro ⟨h1, h2, h3⟩
    refine ⟨keyP y, (mem_grid _).2 h1, ?_⟩
    unfold plOf
    rw [h2, if_neg h3]
    rfl
theorem rise_pl (f : Ky → Int × Int) : Rise noPo (plA f) := by
  unfold Rise plA
  rw [List.pairwise_filterMap]
  refine List.Pairwise.imp (fun {a b} h x hx y hy => ?_) grid_rise
  unfold plOf at hx hy
  split at hx
  · cases hx
  · split at hy
    · cases hy
    · cases hx; cases hy; exact h
theorem pl_congr {f g : Ky → Int × Int} (h : ∀ k, okK k = true → f k = g k) : plA f = plA g :=
  rise_ext noPo _ _ (rise_pl f) (rise_pl g) fun y => by
    rw [mem_pl, mem_pl]
    constructor
    · rintro ⟨h1, h2, h3⟩; exact ⟨h1, by rw [← h _ h1]; exact h2, h3⟩
    · rintro ⟨h1, h2, h3⟩; exact ⟨h1, by rw [h _ h1]; exact h2, h3⟩

/-! ### positions that rise have one of each key -/
theorem filter_one {l : List Po} (h : Rise noPo l) (hk : ∀ x ∈ l, okK (keyP x) = true) {y : Po} (hy : y ∈ l) : l.filter (isK (keyP y)) = [y] := by
  refine rise_ext noPo _ _ (List.Pairwise.filter _ h) (by simp [Rise]) fun z => ?_
  rw [List.mem_filter, isK_iff, List.mem_singleton]
  constructor
  · rintro ⟨h1, h2⟩
    refine rise_one h h1 hy ?_
    show noK (keyP z) = noK (keyP y)
    rw [h2]
  · rintro rfl; exact ⟨hy, rfl⟩
theorem filter_none {l : List Po} {k : Ky} (h : ∀ x ∈ l, keyP x ≠ k) : l.filter (isK k) = [] := by
  rw [List.filter_eq_nil_iff]
  intro x hx he
  exact h x hx ((isK_iff k x).1 he)
def sumK2 (l : List Po) (k : Ky) : Int × Int := (qK l k, cK l k)
theorem sum_of_mem {l : List Po} (h : Rise noPo l) (hk : ∀ x ∈ l, okK (keyP x) = true) {y : Po} (hy : y ∈ l) : sumK2 l (keyP y) = (y.2.2.1, y.2.2.2) := by
  unfold sumK2 qK cK
  rw [filter_one h hk hy, qty_cons, qty_nil, cst_cons, cst_nil, Int.add_zero, Int.add_zero]
theorem sum_of_not {l : List Po} {k : Ky} (h : ∀ x ∈ l, keyP x ≠ k) : sumK2 l k = (0, 0) := by
  unfold sumK2 qK cK
  rw [filter_none h]; rfl
/-- Such positions are what their sums say. -/
theorem pl_self {l : List Po} (h : Rise noPo l) (hk : ∀ x ∈ l, okK (keyP x) = true ∧ ¬ (x.2.2.1 = 0 ∧ x.2.2.2 = 0)) : plA (sumK2 l) = l :=
  rise_ext noPo _ _ (rise_pl _) h fun y => by
    rw [mem_pl]
    constructor
    · rintro ⟨h1, h2, h3⟩
      by_cases hc : ∃ x ∈ l, keyP x = keyP y
      · obtain ⟨x, hx, e⟩ := hc
        have h4 := sum_of_mem h (fun x hx => (hk x hx).1) hx
        rw [e, h2] at h4
        have e1 : x = y := by
          obtain ⟨x1, x2, x3, x4⟩ := x
          obtain ⟨y1, y2, y3, y4⟩ := y
          simp only [keyP, Prod.mk.injEq] at e h4 ⊢
          exact ⟨e.1, e.2, h4.1.symm, h4.2.symm⟩
        rw [← e1]; exact hx
      · rw [sum_of_not fun x hx he => hc ⟨x, hx, he⟩] at h2
        simp only [Prod.mk.injEq] at h2
        exact absurd ⟨h2.1.symm, h2.2.symm⟩ h3
    · intro hy
      exact ⟨(hk y hy).1, sum_of_mem h (fun x hx => (hk x hx).1) hy, (hk y hy).2⟩
theorem sum_pl (f : Ky → Int × Int) (k : Ky) (hk : okK k = true) : sumK2 (plA f) k = f k := by
  by_cases hc : (f k).1 = 0 ∧ (f k).2 = 0
  · rw [sum_of_not]
    · rw [Prod.ext_iff]; exact ⟨hc.1.symm, hc.2.symm⟩
    · intro x hx he
      obtain ⟨h1, h2, h3⟩ := (mem_pl f x).1 hx
      rw [he] at h2
      rw [h2] at hc
      exact h3 hc
  · have hm : (k.1, k.2, (f k).1, (f k).2) ∈ plA f := (mem_pl f _).2 ⟨hk, rfl, hc⟩
    exact sum_of_mem (rise_pl f) (fun x hx => ((mem_pl f x).1 hx).1) hm

/-- The first position of a key. -/
def ofP (l : List Po) (k : Ky) : Po := (l.find? (isK k)).getD (k.1, k.2, 0, 0)
theorem of_sum {l : List Po} (h : Rise noPo l) (hk : ∀ x ∈ l, okK (keyP x) = true) (k : Ky) : ofP l k = (k.1, k.2, qK l k, cK l k) := by
  unfold ofP
  by_cases hc : ∃ x ∈ l, keyP x = k
  · obtain ⟨x, hx, rfl⟩ := hc
    have h1 := filter_one h hk hx
    have h2 : l.find? (isK (keyP x)) = some x := by rw [← List.head?_filter, h1]; rfl
    have h3 := sum_of_mem h hk hx
    unfold sumK2 at h3
    simp only [Prod.mk.injEq] at h3
    rw [h2, h3.1, h3.2]
    rfl
  · have h1 := filter_none fun x hx he => hc ⟨x, hx, he⟩
    have h2 : l.find? (isK k) = none := by rw [← List.head?_filter, h1]; rfl
    have h3 := sum_of_not fun x hx he => hc ⟨x, hx, he⟩
    unfold sumK2 at h3
    simp only [Prod.mk.injEq] at h3
    rw [h2, h3.1, h3.2]
    rfl
end Go.Proofs.Ytlbfljkhlkjcbaa.NumK
namespace Go.Proofs.Ytlbfljkhlkjcbaa.NumK
open Go.RowKit
set_option linter.unusedVariables false

/-- The last number, the trades, the positions. -/
abbrev Bk := Int × List Tr × List Po
abbrev bk0 : Bk := (0, [], [])

def okQ (q : Int) : Bool := wi q (-1099511627776) 1099511627776
theorem okQ_iff (q : Int) : okQ q = true ↔ -1099511627776 ≤ q ∧ q ≤ 1099511627776 := by unfold okQ; rw [wi_iff]
def okPo (x : Po) : Bool := okK (keyP x) && okQ x.2.2.1 && isMoney x.2.2.2 && !(decide (x.2.2.1 = 0) && decide (x.2.2.2 = 0))
theorem okPo_iff (x : Po) : okPo x = true ↔ okK (keyP x) = true ∧ okQ x.2.2.1 = true ∧ isMoney x.2.2.2 = true ∧ ¬ (x.2.2.1 = 0 ∧ x.2.2.2 = 0) := by
  unfold okPo
  simp only [Bool.and_eq_true, Bool.not_eq_true', Bool.and_eq_false_iff, decide_eq_false_iff_not]
  constructor
  · rintro ⟨⟨⟨h1, h2⟩, h3⟩, h4⟩; exact ⟨h1, h2, h3, by omega⟩
  · rintro ⟨h1, h2, h3, h4⟩; exact ⟨⟨⟨h1, h2⟩, h3⟩, by omega⟩
/-- Of each instrument they add up to 0. -/
def flatI (l : List Po) : Bool := (List.range 8).all fun i : Nat => decide (qI l ((i : Int) + 1) = 0)
theorem flatI_iff (l : List Po) : flatI l = true ↔ ∀ n : Int, 1 ≤ n → n ≤ 8 → qI l n = 0 := by
  unfold flatI
  rw [List.all_eq_true]
  constructor
  · intro h n h1 h2
    have := h (n - 1).toNat (List.mem_range.2 (by omega))
    rw [show (((n - 1).toNat : Nat) : Int) + 1 = n by omega] at this
    simpa using this
  · intro h i hi
    have := List.mem_range.1 hi
    simpa using h ((i : Int) + 1) (by omega) (by omega)
def numsT (t : Tr) : Bool := sizedT t && wi t.1.2.1 1 16 && wi t.1.2.2.1 1 16 && !(decide (t.1.2.1 = t.1.2.2.1)) && wi t.1.2.2.2.1 1 8
def okTr (next : Int) (t : Tr) : Bool := numsT t && wi t.1.1 1 next
def rightPs (l : List Po) : Bool := rightL okPo noPo po0 l && flatI l
def rightTs (next : Int) (l : List Tr) : Bool := rightL (okTr next) noTr tr0 l && decide (l.length ≤ 128)
def rightB (b : Bk) : Bool := wi b.1 0 1099511627776 && rightTs b.1 b.2.1 && rightPs b.2.2

theorem rightPs_iff (l : List Po) : rightPs l = true ↔ (∀ x ∈ l, okPo x = true) ∧ Rise noPo l ∧ ∀ n : Int, 1 ≤ n → n ≤ 8 → qI l n = 0 := by
  unfold rightPs
  rw [Bool.and_eq_true, rightL_iff, flatI_iff, and_assoc]
theorem rightB_iff (b : Bk) : rightB b = true ↔ (0 ≤ b.1 ∧ b.1 ≤ 1099511627776) ∧ (((∀ t ∈ b.2.1, okTr b.1 t = true) ∧ Rise noTr b.2.1) ∧ b.2.1.length ≤ 128) ∧ rightPs b.2.2 = true := by
  unfold rightB rightTs
  rw [Bool.and_eq_true, Bool.and_eq_true, Bool.and_eq_true, rightL_iff, wi_iff, decide_eq_true_eq, and_assoc]
theorem numsT_iff (t : Tr) : numsT t = true ↔ sizedT t = true ∧ (1 ≤ t.1.2.1 ∧ t.1.2.1 ≤ 16) ∧ (1 ≤ t.1.2.2.1 ∧ t.1.2.2.1 ≤ 16) ∧ t.1.2.1 ≠ t.1.2.2.1 ∧ 1 ≤ t.1.2.2.2.1 ∧ t.1.2.2.2.1 ≤ 8 := by
  unfold numsT
  simp only [Bool.and_eq_true, wi_iff, Bool.not_eq_true', decide_eq_false_iff_not, and_assoc, ne_eq]

/-! ### adding -/
def okLeg (x : Po) : Bool := okK (keyP x) && okAm x
def addF (l legs : List Po) (k : Ky) : Int × Int := (qK l k + qK legs k, cK l k + cK legs k)
def fits (f : Ky → Int × Int) : Bool := gridK.all fun k => okQ (f k).1 && isMoney (f k).2
theorem fits_iff (f : Ky → Int × Int) : fits f = true ↔ ∀ k, okK k = true → okQ (f k).1 = true ∧ isMoney (f k).2 = true := by
  unfold fits
  rw [List.all_eq_true]
  constructor
  · intro h k hk
    have := h k ((mem_grid k).2 hk)
    rwa [Bool.and_eq_true] at this
  · intro h k hk
    rw [Bool.and_eq_true]
    exact h k ((mem_grid k).1 hk)
def addE (b : Bk) (legs : List Po) : Int := if rightB b then (if legs.all okLeg then (if flatI legs then (if fits (addF b.2.2 legs) then 0 else 1) else 12) else 3) else 14
def addB (b : Bk) (legs : List Po) : Bk := if addE b legs = 0 then (b.1, b.2.1, plA (addF b.2.2 legs)) else bk0
theorem addE_ok {b : Bk} {legs : List Po} : addE b legs = 0 ↔ rightB b = true ∧ legs.all okLeg = true ∧ flatI legs = true ∧ fits (addF b.2.2 legs) = true := by
  unfold addE
  by_cases h1 : rightB b = true
  · rw [if_pos h1]
    by_cases h2 : legs.all okLeg = true
    · rw [if_pos h2]
      by_cases h3 : flatI legs = true
      · rw [if_pos h3]
        by_cases h4 : fits (addF b.2.2 legs) = true
        · rw [if_pos h4]; exact ⟨fun _ => ⟨h1, h2, h3, h4⟩, fun _ => rfl⟩
        · rw [if_neg h4]; exact ⟨fun h => absurd h (by decide), fun h => absurd h.2.2.2 h4⟩
      · rw [if_neg h3]; exact ⟨fun h => absurd h (by decide), fun h => absurd h.2.2.1 h3⟩
    · rw [if_neg h2]; exact ⟨fun h => absurd h (by decide), fun h => absurd h.2.1 h2⟩
  · rw [if_neg h1]; exact ⟨fun h => absurd h (by decide), fun h => absurd h.1 h1⟩
theorem right_keys {l : List Po} (h : rightPs l = true) : ∀ x ∈ l, okK (keyP x) = true := fun x hx => ((okPo_iff x).1 (((rightPs_iff l).1 h).1 x hx)).1
theorem right_self {l : List Po} (h : rightPs l = true) : plA (sumK2 l) = l := by
  obtain ⟨h1, h2, h3⟩ := (rightPs_iff l).1 h
  exact pl_self h2 fun x hx => ⟨((okPo_iff x).1 (h1 x hx)).1, ((okPo_iff x).1 (h1 x hx)).2.2.2⟩
theorem who_in {x : Po} (h : okK (keyP x) = true) : 1 ≤ x.1 ∧ x.1 ≤ 16 := ((okK_iff _).1 h).1

theorem qI_pl (f : Ky → Int × Int) (n : Int) (h1 : 1 ≤ n) (h2 : n ≤ 8) : qI (plA f) n = byW (fun k => (f k).1) n := by
  rw [qI_byW _ _ fun x hx => who_in ((mem_pl f x).1 hx).1]
  refine byW_congr fun w w1 w2 => ?_
  have := sum_pl f (w, n) ((okK_iff _).2 ⟨⟨w1, w2⟩, h1, h2⟩)
  exact (Prod.ext_iff.1 this).1
theorem cI_pl (f : Ky → Int × Int) (n : Int) (h1 : 1 ≤ n) (h2 : n ≤ 8) : cI (plA f) n = byW (fun k => (f k).2) n := by
  rw [cI_byW _ _ fun x hx => who_in ((mem_pl f x).1 hx).1]
  refine byW_congr fun w w1 w2 => ?_
  have := sum_pl f (w, n) ((okK_iff _).2 ⟨⟨w1, w2⟩, h1, h2⟩)
  exact (Prod.ext_iff.1 this).2
theorem leg_keys {legs : List Po} (h : legs.all okLeg = true) : ∀ x ∈ legs, okK (keyP x) = true := fun x hx => by
  have := List.all_eq_true.1 h x hx
  unfold okLeg at this
  rw [Bool.and_eq_true] at this
  exact this.1
theorem qI_add {l legs : List Po} (hl : ∀ x ∈ l, okK (keyP x) = true) (hg : ∀ x ∈ legs, okK (keyP x) = true) (n : Int) (h1 : 1 ≤ n) (h2 : n ≤ 8) : qI (plA (addF l legs)) n = qI l n + qI legs n := by
  rw [qI_pl _ n h1 h2, qI_byW l n fun x hx => who_in (hl x hx), qI_byW legs n fun x hx => who_in (hg x hx), ← byW_add]
  rfl
theorem cI_add {l legs : List Po} (hl : ∀ x ∈ l, okK (keyP x) = true) (hg : ∀ x ∈ legs, okK (keyP x) = true) (n : Int) (h1 : 1 ≤ n) (h2 : n ≤ 8) : cI (plA (addF l legs)) n = cI l n + cI legs n := by
  rw [cI_pl _ n h1 h2, cI_byW l n fun x hx => who_in (hl x hx), cI_byW legs n fun x hx => who_in (hg x hx), ← byW_add]
  rfl
theorem right_addP {l legs : List Po} (hl : rightPs l = true) (hg : legs.all okLeg = true) (hf : flatI legs = true) (h : fits (addF l legs) = true) : rightPs (plA (addF l legs)) = true := by
  have h3 := ((rightPs_iff l).1 hl).2.2
  refine (rightPs_iff _).2 ⟨fun x hx => ?_, rise_pl _, fun n h1 h2 => ?_⟩
  · obtain ⟨h4, h5, h6⟩ := (mem_pl _ x).1 hx
    have h7 := (fits_iff _).1 h _ h4
    rw [h5] at h7
    exact (okPo_iff x).2 ⟨h4, h7.1, h7.2, h6⟩
  · rw [qI_add (right_keys hl) (leg_keys hg) n h1 h2, h3 n h1 h2, (flatI_iff legs).1 hf n h1 h2]; rfl
/-! ### the legs of a trade -/
theorem qI_two (t : Tr) (n m : Int) : qI (twoL t n) m = 0 := by
  show qI [_, _] m = 0
  rw [qI_cons, qI_cons, qI_nil]
  unfold isI
  simp only
  split <;> omega
theorem cI_two (t : Tr) (n m : Int) : cI (twoL t n) m = 0 := by
  show cI [_, _] m = 0
  rw [cI_cons, cI_cons, cI_nil]
  unfold isI
  simp only [Int.neg_mul]
  split <;> omega
theorem qI_legs (t : Tr) (back : Bool) (m : Int) : qI (legsT t back) m = 0 := by
  unfold legsT
  split
  · exact qI_two t _ m
  · rfl
theorem cI_legs (t : Tr) (back : Bool) (m : Int) : cI (legsT t back) m = 0 := by
  unfold legsT
  split
  · exact cI_two t _ m
  · rfl
theorem legs_flatI (t : Tr) (back : Bool) : flatI (legsT t back) = true := (flatI_iff _).2 fun n _ _ => qI_legs t back n
theorem nums_legs {t : Tr} (h : numsT t = true) (back : Bool) : legsT t back = twoL t (if back then -t.1.2.2.2.2.1 else t.1.2.2.2.2.1) := by
  unfold legsT; rw [if_pos ((numsT_iff t).1 h).1]
/-- Within so much. -/
def wm (n m : Int) : Prop := -m ≤ n ∧ n ≤ m
theorem two_small {t : Tr} (h : numsT t = true) {n : Int} (hn : n = t.1.2.2.2.2.1 ∨ n = -t.1.2.2.2.2.1) : wm n 1048576 ∧ wm (n * t.1.2.2.2.2.2) 1125899906842624 := by
  have h2 := (sizedT_iff t).1 ((numsT_iff t).1 h).1
  have h3 := mul_in _ _ h2
  unfold wm
  rcases hn with rfl | rfl
  · omega
  · rw [Int.neg_mul]; omega
theorem legs_ok {t : Tr} (h : numsT t = true) (back : Bool) : (legsT t back).all okLeg = true := by
  have hk := (numsT_iff t).1 h
  obtain ⟨s1, s2⟩ := two_small h (n := if back then -t.1.2.2.2.2.1 else t.1.2.2.2.2.1) (by cases back <;> simp)
  rw [nums_legs h]
  generalize (if back then -t.1.2.2.2.2.1 else t.1.2.2.2.2.1) = n at *
  unfold wm at s1 s2
  rw [List.all_eq_true]
  intro x hx
  unfold okLeg okAm
  rw [Bool.and_eq_true, Bool.and_eq_true, okK_iff, isMoney_iff, isMoney_iff]
  unfold twoL at hx
  rcases List.mem_cons.1 hx with rfl | hx
  · refine ⟨⟨hk.2.1, hk.2.2.2.2⟩, ?_, ?_⟩ <;> simp only <;> omega
  · rcases List.mem_cons.1 hx with rfl | hx
    · refine ⟨⟨hk.2.2.1, hk.2.2.2.2⟩, ?_, ?_⟩
      · simp only; omega
      · simp only [Int.neg_mul]; omega
    · cases hx
def sideB (t : Tr) (k : Ky) : Bool := isK k (t.1.2.1, t.1.2.2.2.1, 0, 0)
def sideS (t : Tr) (k : Ky) : Bool := isK k (t.1.2.2.1, t.1.2.2.2.1, 0, 0)
theorem qK_two (t : Tr) (m : Int) (k : Ky) : qK (twoL t m) k = (if sideB t k then m else 0) + ((if sideS t k then -m else 0) + 0) := by
  show qK [_, _] k = _
  rw [qK_cons, qK_cons, qK_nil]; rfl
theorem cK_two (t : Tr) (m : Int) (k : Ky) : cK (twoL t m) k = (if sideB t k then m * t.1.2.2.2.2.2 else 0) + ((if sideS t k then -m * t.1.2.2.2.2.2 else 0) + 0) := by
  show cK [_, _] k = _
  rw [cK_cons, cK_cons, cK_nil]; rfl
theorem sides_two {t : Tr} (h : numsT t = true) (k : Ky) : ¬ (sideB t k = true ∧ sideS t k = true) := by
  have hk := (numsT_iff t).1 h
  rintro ⟨h1, h2⟩
  unfold sideB at h1
  unfold sideS at h2
  rw [isK_iff] at h1 h2
  have := h1.trans h2.symm
  unfold keyP at this
  simp only [Prod.mk.injEq] at this
  exact hk.2.2.2.1 this.1
theorem qK_small {t : Tr} (h : numsT t = true) (back : Bool) (k : Ky) : wm (qK (legsT t back) k) 1048576 ∧ wm (cK (legsT t back) k) 1125899906842624 := by
  obtain ⟨s1, s2⟩ := two_small h (n := if back then -t.1.2.2.2.2.1 else t.1.2.2.2.2.1) (by cases back <;> simp)
  have hne := sides_two h k
  rw [nums_legs h, qK_two, cK_two]
  generalize (if back then -t.1.2.2.2.2.1 else t.1.2.2.2.2.1) = n at *
  rw [Int.neg_mul]
  generalize n * t.1.2.2.2.2.2 = c at *
  generalize sideB t k = x at *
  generalize sideS t k = y at *
  unfold wm at *
  cases x <;> cases y <;> simp at * <;> omega
/-- Only what a trade says beside its number counts. -/
def bare (t : Tr) : Int × Int × Int × Int × Int := t.1.2
theorem nums_bare {t u : Tr} (h : t.1.2 = u.1.2) : numsT t = numsT u := by
  unfold numsT sizedT
  rw [h]
end Go.Proofs.Ytlbfljkhlkjcbaa.NumK
namespace Go.Proofs.Ytlbfljkhlkjcbaa.NumK
open Go.RowKit
set_option linter.unusedVariables false

def worthV (p : Po) (mult price : Int) : Int := mult * (p.2.2.1 * price - p.2.2.2)
def mayW (p : Po) (mult price : Int) : Bool := okQ p.2.2.1 && isMoney p.2.2.2 && wi mult 1 1024 && wi price 0 1073741824
def worthE (p : Po) (mult price : Int) : Int := if mayW p mult price then (if isMoney (worthV p mult price) then 0 else 1) else 3
def worthN (p : Po) (mult price : Int) : Int := if worthE p mult price = 0 then worthV p mult price else 0
/-- The price that was told, or the last one; none: 0. -/
def priceI (i : In) : Int := if i.1.2.2.2.2.1 = 0 then i.1.2.2.2.2.2 else i.1.2.2.2.2.1
def priceE (i : In) : Int := if i.1.2.2.2.2.1 = 0 ∧ i.1.2.2.2.2.2 = 0 then 20 else 0
theorem priceE_iff (i : In) : priceE i = 0 ↔ priceI i ≠ 0 := by
  unfold priceE priceI
  by_cases h : i.1.2.2.2.2.1 = 0
  · rw [if_pos h]
    by_cases h2 : i.1.2.2.2.2.2 = 0
    · rw [if_pos ⟨h, h2⟩]; simp [h2]
    · rw [if_neg (fun hh => h2 hh.2)]; simp [h2]
  · rw [if_neg h, if_neg (fun hh => h hh.1)]; simp [h]

def instOf (r : Rl) (p : Po) : In := findL noIn in0 r.2.1 p.2.1
def hasI (r : Rl) (p : Po) : Bool := hasL noIn r.2.1 p.2.1
def wonP (r : Rl) (p : Po) : Int := worthV p (instOf r p).1.2.2.1 (priceI (instOf r p))
def costP (r : Rl) (p : Po) : Int := p.2.2.1 * priceI (instOf r p)
/-- What is amiss with a position. -/
def stepM (r : Rl) (p : Po) : Int :=
  if hasI r p then (if priceI (instOf r p) = 0 ∧ p.2.2.1 ≠ 0 then 20 else (if isMoney (wonP r p) && isMoney (costP r p) then 0 else 1)) else 10
theorem stepM_ok {r : Rl} {p : Po} : stepM r p = 0 ↔ hasI r p = true ∧ ¬ (priceI (instOf r p) = 0 ∧ p.2.2.1 ≠ 0) ∧ isMoney (wonP r p) = true ∧ isMoney (costP r p) = true := by
  unfold stepM
  by_cases h1 : hasI r p = true
  · rw [if_pos h1]
    by_cases h2 : priceI (instOf r p) = 0 ∧ p.2.2.1 ≠ 0
    · rw [if_pos h2]; exact ⟨fun h => absurd h (by decide), fun h => absurd h2 h.2.1⟩
    · rw [if_neg h2]
      by_cases h3 : (isMoney (wonP r p) && isMoney (costP r p)) = true
      · rw [if_pos h3]; rw [Bool.and_eq_true] at h3; exact ⟨fun _ => ⟨h1, h2, h3⟩, fun _ => rfl⟩
      · rw [if_neg h3]; rw [Bool.and_eq_true] at h3; exact ⟨fun h => absurd h (by decide), fun h => absurd h.2.2 h3⟩
  · rw [if_neg h1]; exact ⟨fun h => absurd h (by decide), fun h => absurd h.1 h1⟩
/-- The first thing that is amiss. -/
def firstM (r : Rl) : List Po → Int
  | [] => 0
  | p :: l => if stepM r p = 0 then firstM r l else stepM r p
theorem firstM_ok {r : Rl} : ∀ {l : List Po}, firstM r l = 0 ↔ ∀ p ∈ l, stepM r p = 0
  | [] => by simp [firstM]
  | p :: l => by
    unfold firstM
    by_cases h : stepM r p = 0
    · rw [if_pos h, firstM_ok]; simp [h]
    · rw [if_neg h]
      exact ⟨fun hh => absurd hh h, fun hh => absurd (hh p (by simp)) h⟩
theorem firstM_at {r : Rl} : ∀ {l : List Po} (j : Nat) (hj : j < l.length), (∀ i, (hi : i < j) → stepM r (l[i]'(by omega)) = 0) → stepM r l[j] ≠ 0 → firstM r l = stepM r l[j]
  | p :: l, 0, _, _, h => by
    have h' : stepM r p ≠ 0 := h
    unfold firstM; rw [if_neg h']; rfl
  | p :: l, j + 1, hj, h0, h => by
    have h' : stepM r p = 0 := h0 0 (by omega)
    unfold firstM
    rw [if_pos h']
    exact firstM_at j (by simpa using hj) (fun i hi => h0 (i + 1) (by omega)) h
/-- Marked. -/
def markP (r : Rl) (p : Po) : Option Po := if p.2.2.1 = 0 ∧ costP r p = 0 then none else some (p.1, p.2.1, p.2.2.1, costP r p)
def markL (r : Rl) (l : List Po) : List Po := l.filterMap (markP r)
def dueP (r : Rl) (p : Po) : Int × Int × Int := (p.1, (instOf r p).1.2.1, wonP r p)
def duesM (r : Rl) (l : List Po) : List (Int × Int × Int) := l.map (dueP r)
theorem mark_snoc (r : Rl) (l : List Po) (p : Po) : markL r (l ++ [p]) = markL r l ++ (if p.2.2.1 = 0 ∧ costP r p = 0 then [] else [(p.1, p.2.1, p.2.2.1, costP r p)]) := by
  unfold markL
  rw [List.filterMap_append]
  congr 1
  unfold markP
  rw [List.filterMap_cons]
  split <;> rename_i e
  · split at e
    · next h2 => rw [if_pos h2]; rfl
    · cases e
  · split at e
    · cases e
    · next h2 => cases e; rw [if_neg h2]; rfl
theorem mem_mark {r : Rl} {l : List Po} {y : Po} : y ∈ markL r l ↔ ∃ p ∈ l, y = (p.1, p.2.1, p.2.2.1, costP r p) ∧ ¬ (p.2.2.1 = 0 ∧ costP r p = 0) := by
  unfold markL
  rw [List.mem_filterMap]
  constructor
  · rintro ⟨p, hp, e⟩
    unfold markP at e
    split at e
    · cases e
    · next h => cases e; exact ⟨p, hp, rfl, h⟩
  · rintro ⟨p, hp, rfl, h⟩
    exact ⟨p, hp, by unfold markP; rw [if_neg h]⟩
theorem qI_mark (r : Rl) (l : List Po) (n : Int) : qI (markL r l) n = qI l n := by
  induction l with
  | nil => rfl
  | cons p l ih =>
    unfold markL at ih ⊢
    rw [List.filterMap_cons]
    split <;> rename_i e
    · unfold markP at e
      split at e
      · next h => rw [ih, qI_cons, h.1]; split <;> omega
      · cases e
    · unfold markP at e
      split at e
      · cases e
      · cases e
        rw [qI_cons, qI_cons, ih]; rfl
theorem inst_key (r : Rl) (p q : Po) (h : p.2.1 = q.2.1) : instOf r p = instOf r q ∧ hasI r p = hasI r q := by unfold instOf hasI; rw [h]; exact ⟨rfl, rfl⟩
theorem right_mark {r : Rl} {l : List Po} (h : rightPs l = true) (hs : ∀ p ∈ l, stepM r p = 0) : rightPs (markL r l) = true := by
  obtain ⟨h1, h2, h3⟩ := (rightPs_iff l).1 h
  refine (rightPs_iff _).2 ⟨fun y hy => ?_, ?_, fun n n1 n2 => by rw [qI_mark]; exact h3 n n1 n2⟩
  · obtain ⟨p, hp, rfl, hn⟩ := mem_mark.1 hy
    obtain ⟨g1, g2, g3, g4⟩ := (okPo_iff p).1 (h1 p hp)
    exact (okPo_iff _).2 ⟨g1, g2, (stepM_ok.1 (hs p hp)).2.2.2, hn⟩
  · unfold Rise markL
    rw [List.pairwise_filterMap]
    refine List.Pairwise.imp (fun {a b} hab x hx y hy => ?_) h2
    unfold markP at hx hy
    split at hx
    · cases hx
    · split at hy
      · cases hy
      · cases hx; cases hy; exact hab
/-- Marked once more: the same, and nobody wins anything. -/
theorem mark_again {r : Rl} {l : List Po} (hs : ∀ p ∈ l, stepM r p = 0) {y : Po} (hy : y ∈ markL r l) : stepM r y = 0 ∧ markP r y = some y ∧ wonP r y = 0 := by
  obtain ⟨p, hp, rfl, hn⟩ := mem_mark.1 hy
  obtain ⟨s1, s2, s3, s4⟩ := stepM_ok.1 (hs p hp)
  obtain ⟨k1, k2⟩ := inst_key r (p.1, p.2.1, p.2.2.1, costP r p) p rfl
  have e1 : costP r (p.1, p.2.1, p.2.2.1, costP r p) = costP r p := by
    show p.2.2.1 * priceI (instOf r (p.1, p.2.1, p.2.2.1, costP r p)) = _
    rw [k1]; rfl
  have e2 : wonP r (p.1, p.2.1, p.2.2.1, costP r p) = 0 := by
    unfold wonP worthV
    rw [k1]
    show _ * (p.2.2.1 * priceI (instOf r p) - p.2.2.1 * priceI (instOf r p)) = 0
    rw [Int.sub_self, Int.mul_zero]
  refine ⟨stepM_ok.2 ⟨by rw [k2]; exact s1, by rw [k1]; exact s2, by rw [e2]; decide, by rw [e1]; exact s4⟩, ?_, e2⟩
  unfold markP
  rw [e1, if_neg hn]
theorem mark_twice {r : Rl} {l : List Po} (hs : ∀ p ∈ l, stepM r p = 0) : markL r (markL r l) = markL r l := by
  have : ∀ m : List Po, (∀ y ∈ m, markP r y = some y) → markL r m = m := by
    intro m
    induction m with
    | nil => intro _; rfl
    | cons y m ih =>
      intro h
      have h1 := h y (by simp)
      have h2 := ih fun z hz => h z (List.mem_cons_of_mem _ hz)
      unfold markL at h2 ⊢
      rw [List.filterMap_cons, h1]
      simp only
      rw [h2]
  exact this _ fun y hy => (mark_again hs hy).2.1
theorem mark_qty {r : Rl} {l : List Po} (h : rightPs l = true) (hs : ∀ p ∈ l, stepM r p = 0) {p : Po} (hp : p ∈ l) : (ofP (markL r l) (keyP p)).2.2.1 = p.2.2.1 := by
  have h1 := right_mark h hs
  obtain ⟨_, h2, _⟩ := (rightPs_iff _).1 h1
  have h3 : ∀ x ∈ markL r l, okK (keyP x) = true := right_keys h1
  rw [of_sum h2 h3]
  by_cases hc : p.2.2.1 = 0 ∧ costP r p = 0
  · show qK (markL r l) (keyP p) = _
    have : sumK2 (markL r l) (keyP p) = (0, 0) := sum_of_not fun x hx he => by
      obtain ⟨q, hq, rfl, hn⟩ := mem_mark.1 hx
      have e : q = p := rise_one ((rightPs_iff l).1 h).2.1 hq hp (by
        show noK (keyP q) = noK (keyP p)
        rw [← he]; rfl)
      rw [e] at hn; exact hn hc
    unfold sumK2 at this
    simp only [Prod.mk.injEq] at this
    rw [this.1, hc.1]
  · have hm : (p.1, p.2.1, p.2.2.1, costP r p) ∈ markL r l := mem_mark.2 ⟨p, hp, rfl, hc⟩
    have := sum_of_mem h2 h3 hm
    unfold sumK2 at this
    simp only [Prod.mk.injEq] at this
    exact this.1

/-! ### what all win -/
theorem won_sum (r : Rl) (i : In) (n : Int) (l : List Po) (hi : ∀ p ∈ l, p.2.1 = n → instOf r p = i) :
    ((l.filter (isI n)).map (wonP r)).sum = i.1.2.2.1 * (qI l n * priceI i - cI l n) := by
  induction l with
  | nil => simp [qI_nil, cI_nil]
  | cons p l ih =>
    have h2 := ih fun q hq => hi q (List.mem_cons_of_mem _ hq)
    rw [List.filter_cons, qI_cons, cI_cons]
    by_cases hc : isI n p = true
    · rw [if_pos hc, if_pos hc, if_pos hc, List.map_cons, List.sum_cons, h2]
      have hn : p.2.1 = n := by simpa [isI] using hc
      unfold wonP worthV
      rw [hi p (by simp) hn]
      rw [← Int.mul_add, Int.add_mul]
      congr 1
      omega
    · rw [if_neg hc, if_neg hc, if_neg hc, h2, Int.zero_add, Int.zero_add]
theorem cost_sum (m n : Int) (l : List Po) : ((l.filter (isI n)).map fun p => -p.2.2.2 * m).sum = -(m * cI l n) := by
  induction l with
  | nil => simp [cI_nil]
  | cons p l ih =>
    rw [List.filter_cons, cI_cons]
    by_cases hc : isI n p = true
    · rw [if_pos hc, if_pos hc, List.map_cons, List.sum_cons, ih, Int.mul_add, Int.neg_mul, Int.mul_comm m p.2.2.2]
      omega
    · rw [if_neg hc, if_neg hc, ih, Int.zero_add]
theorem won_zero (r : Rl) (i : In) (n : Int) (l : List Po) (hi : ∀ p ∈ l, p.2.1 = n → instOf r p = i) (h0 : qI l n = 0) : ((l.filter (isI n)).map (wonP r)).sum = ((l.filter (isI n)).map fun p => -p.2.2.2 * i.1.2.2.1).sum := by
  rw [won_sum r i n l hi, h0, cost_sum, Int.zero_mul, Int.zero_sub, Int.mul_neg]

/-! ### from price to price -/
theorem worth_steps (p : Po) (mult a b : Int) : worthV p mult a + worthV (p.1, p.2.1, p.2.2.1, p.2.2.1 * a) mult b = worthV p mult b := by
  unfold worthV
  rw [← Int.mul_add]
  congr 1
  simp only; omega
theorem worth_turn (p : Po) (mult a : Int) : worthV (p.1, p.2.1, -p.2.2.1, -p.2.2.2) mult a = -worthV p mult a := by
  unfold worthV
  rw [← Int.mul_neg]
  congr 1
  simp only
  rw [Int.neg_mul]; omega
end Go.Proofs.Ytlbfljkhlkjcbaa.NumK
namespace Go.Proofs.Ytlbfljkhlkjcbaa.NumK
open Go.RowKit

/-- How many cells, and what they read as in a world; what is read stays where the world only grows. -/
structure Sp (α : Type) where
  size : Nat
  rd : World → List Value → α → Prop
  len : ∀ {w : World} {cs : List Value} {a : α}, rd w cs a → cs.length = size
  keep : ∀ {w w' : World} {cs : List Value} {a : α}, rd w cs a → Grew w w' → rd w' cs a

def spInt (k : IntKind) : Sp Int := ⟨1, fun _ cs n => cs = [.int k n] ∧ (Lit.int k n).wf = true, fun h => by rw [h.1]; rfl, fun h _ => h⟩
def spBool : Sp Bool := ⟨1, fun _ cs b => cs = [.bool b], fun h => by rw [h]; rfl, fun h _ => h⟩
def spStr : Sp ByteArray := ⟨1, fun _ cs s => cs = [.string s] ∧ s.size ≤ maxLen, fun h => by rw [h.1]; rfl, fun h _ => h⟩
def spPair {α β : Type} (A : Sp α) (B : Sp β) : Sp (α × β) :=
  ⟨A.size + B.size, fun w cs p => ∃ c1 c2, cs = c1 ++ c2 ∧ A.rd w c1 p.1 ∧ B.rd w c2 p.2,
    fun ⟨_, _, e, h1, h2⟩ => by rw [e, List.length_append, A.len h1, B.len h2],
    fun ⟨c1, c2, e, h1, h2⟩ g => ⟨c1, c2, e, A.keep h1 g, B.keep h2 g⟩⟩

theorem addr_add (b o k : Nat) : (⟨b, o, none⟩ : Addr).add k = ⟨b, o + k, none⟩ := by unfold Addr.add; split <;> simp_all

/-- A slice's elements, wherever they lie. -/
def Row {α : Type} (A : Sp α) (w : World) (ad : Option Addr) (n : Nat) (l : List α) : Prop :=
  l.length = n ∧ (0 < n → ∃ b o, ad = some ⟨b, o, none⟩ ∧ b < w.heap.size ∧ ∀ j (h : j < l.length), ∃ cs, A.rd w cs l[j] ∧ ∀ i, i < A.size → w.cell? ⟨b, o + j * A.size + i, none⟩ = cs[i]?)
theorem Row.keep {α : Type} {A : Sp α} {w w' : World} {ad : Option Addr} {n : Nat} {l : List α} (h : Row A w ad n l) (g : Grew w w') : Row A w' ad n l :=
  ⟨h.1, fun hn => by
    obtain ⟨b, o, e, hb, hc⟩ := h.2 hn
    refine ⟨b, o, e, Nat.lt_of_lt_of_le hb g.size, fun j hj => ?_⟩
    obtain ⟨cs, h1, h2⟩ := hc j hj
    exact ⟨cs, A.keep h1 g, fun i hi => (grew_cell g (p := ⟨b, o + j * A.size + i, none⟩) hb).trans (h2 i hi)⟩⟩
theorem Row.nil {α : Type} (A : Sp α) (w : World) (ad : Option Addr) : Row A w ad 0 [] := ⟨rfl, fun h => absurd h (by omega)⟩
theorem Row.take {α : Type} {A : Sp α} {w : World} {ad : Option Addr} {n k : Nat} {l : List α} (h : Row A w ad n l) (hk : k ≤ n) : Row A w ad k (l.take k) := by
  refine ⟨by have := h.1; simp; omega, fun hp => ?_⟩
  obtain ⟨b, o, e, hb, hc⟩ := h.2 (by omega)
  refine ⟨b, o, e, hb, fun j hj => ?_⟩
  obtain ⟨cs, h1, h2⟩ := hc j (by rw [List.length_take] at hj; omega)
  exact ⟨cs, by rw [List.getElem_take]; exact h1, h2⟩
theorem Row.drop {α : Type} {A : Sp α} {w : World} {ad : Addr} {n k : Nat} {l : List α} (h : Row A w (some ad) n l) (hk : k ≤ n) : Row A w (some (ad.add (k * A.size))) (n - k) (l.drop k) := by
  refine ⟨by have := h.1; simp; omega, fun hp => ?_⟩
  obtain ⟨b, o, e, hb, hc⟩ := h.2 (by omega)
  cases e
  refine ⟨b, o + k * A.size, by rw [addr_add], hb, fun j hj => ?_⟩
  obtain ⟨cs, h1, h2⟩ := hc (k + j) (by rw [List.length_drop] at hj; omega)
  refine ⟨cs, by rw [List.getElem_drop]; exact h1, fun i hi => ?_⟩
  rw [← h2 i hi, Nat.add_mul, Nat.add_assoc o]

def spSlice {α : Type} (A : Sp α) : Sp (List α) :=
  ⟨1, fun w cs l => ∃ ad n c, cs = [.slice ad n c] ∧ Row A w ad n l ∧ (ad = none → c = 0) ∧ n ≤ c ∧ c ≤ maxLen, fun ⟨_, _, _, e, _⟩ => by rw [e]; rfl,
    fun ⟨ad, n, c, e, h, r⟩ g => ⟨ad, n, c, e, h.keep g, r⟩⟩
def spArr {α : Type} (n : Nat) (A : Sp α) : Sp (List α) :=
  ⟨n * A.size, fun w cs l => l.length = n ∧ cs.length = n * A.size ∧ ∀ j (h : j < l.length), A.rd w ((cs.drop (j * A.size)).take A.size) l[j], fun h => h.2.1,
    fun h g => ⟨h.1, h.2.1, fun j hj => A.keep (h.2.2 j hj) g⟩⟩
/-- The same cells, read through a function. -/
def spMap {α β : Type} (f : α → β) (A : Sp α) : Sp β :=
  ⟨A.size, fun w cs b => ∃ a, A.rd w cs a ∧ f a = b, fun ⟨_, h, _⟩ => A.len h, fun ⟨a, h, e⟩ g => ⟨a, A.keep h g, e⟩⟩

/-- What came in at type t reads as A says. -/
def Opens (P : Program) (t : TypeId) {α : Type} (A : Sp α) : Prop :=
  P.cellsOf t = A.size ∧ ∀ {H : Type} (enc : TypeId × Value → H) (w : World) (held : Bool) (fuel : Nat) (cs : List Value) (x : DataW H × List MemPlace), DataW.trod enc P w 0 (fun _ => true) held fuel t cs = some x → ∃ a, A.rd w cs a

theorem opens_int {P : Program} {t : TypeId} {k : IntKind} (ht : P.underlying t = some (.int k)) (hc : P.cellsOf t = 1) : Opens P t (spInt k) :=
  ⟨hc, fun _ _ _ _ _ _ h => by obtain ⟨n, e, _, w⟩ := DataW.trod_int ht h; exact ⟨n, e, w⟩⟩
theorem opens_bool {P : Program} {t : TypeId} (ht : P.underlying t = some .bool) (hc : P.cellsOf t = 1) : Opens P t spBool :=
  ⟨hc, fun _ _ _ _ _ _ h => by obtain ⟨n, e, _⟩ := DataW.trod_bool ht h; exact ⟨n, e⟩⟩
theorem opens_map {P : Program} {t : TypeId} {α β : Type} {A : Sp α} (f : α → β) (h : Opens P t A) : Opens P t (spMap f A) :=
  ⟨h.1, fun enc w held fuel cs x hx => by obtain ⟨a, ha⟩ := h.2 enc w held fuel cs x hx; exact ⟨f a, a, ha, rfl⟩⟩

theorem opens_slice {P : Program} {t e : TypeId} {α : Type} [Inhabited α] {A : Sp α} (ht : P.underlying t = some (.slice e)) (hc : P.cellsOf t = 1) (he : Opens P e A) (hz : A.size ≠ 0) : Opens P t (spSlice A) := by
  refine ⟨hc, fun enc w held fuel cs x h => ?_⟩
  rcases Go.Deep.open_slice ht h with ⟨rfl, _⟩ | ⟨a, len, cap, m, n, D, Pl, rfl, _, hl, hm, hmm, _, hx⟩
  · exact ⟨[], none, 0, 0, rfl, Row.nil A w none, fun _ => rfl, Nat.le_refl _, by unfold maxLen; omega⟩
  · simp only [if_true] at hmm
    subst hmm
    have each : ∀ i, i < m → ∃ y, ∃ cs, A.rd w cs y ∧ ∀ k, k < A.size → w.cell? ((a.add (i * A.size)).add k) = cs[k]? := by
      intro i hi
      obtain ⟨cs', h1, h2⟩ := hx i hi
      rw [he.1] at h1
      obtain ⟨_, hlen, hcell⟩ := World.cells?_some h1
      obtain ⟨y, hy⟩ := he.2 enc w held n cs' _ h2
      exact ⟨y, cs', hy, hcell⟩
    obtain ⟨f, hf⟩ := Go.Deep.choose_lt each
    refine ⟨(List.range len).map f, some a, len, m, rfl, ⟨by simp, fun h0 => ?_⟩, fun h => by (cases h), hl, hm⟩
    obtain ⟨b, o, spot⟩ := a
    obtain ⟨cs0, h1, h2⟩ := hf 0 (by omega)
    have h3 := h2 0 (by omega)
    have hl0 := A.len h1
    have h4 : w.cell? ⟨b, o, spot⟩ = some cs0[0] := by
      rw [List.getElem?_eq_getElem (by omega)] at h3
      simpa [Addr.add] using h3
    have hspot : spot = none := by simpa using World.cell?_spot h4
    subst hspot
    refine ⟨b, o, rfl, by simpa using World.block_lt_of_cell? w _ h4, fun j hj => ?_⟩
    obtain ⟨cs', g1, g2⟩ := hf j (by simp at hj; omega)
    refine ⟨cs', by simpa using g1, fun i hi => ?_⟩
    rw [← g2 i hi, addr_add, addr_add]

/-- A struct's fields, in their order, from a cell on. -/
inductive Fs (P : Program) : List Field → Nat → {α : Type} → Sp α → Prop
  | last {α : Type} {A : Sp α} (f : Field) (off : Nat) (ho : f.offset = off) (h : Opens P f.type A) : Fs P [f] off A
  | cons {α β : Type} {A : Sp α} {B : Sp β} (f : Field) (fs : List Field) (off : Nat) (ho : f.offset = off) (h : Opens P f.type A) (r : Fs P fs (off + A.size) B) : Fs P (f :: fs) off (spPair A B)

theorem Fs.rd {P : Program} {H : Type} {enc : TypeId × Value → H} {w : World} {held : Bool} {n : Nat} {cs : List Value} {fs : List Field} {off : Nat} {α : Type} {A : Sp α} (h : Fs P fs off A)
    (hx : ∀ f ∈ fs, ∃ y, DataW.trod enc P w 0 (fun _ => true) held n f.type ((cs.drop f.offset).take (P.cellsOf f.type)) = some y) : ∃ a, A.rd w ((cs.drop off).take A.size) a := by
  induction h with
  | last f off ho h =>
    obtain ⟨y, hy⟩ := hx f (by simp)
    rw [ho, h.1] at hy
    exact h.2 enc w held n _ y hy
  | @cons α β A B f fs off ho h r ih =>
    obtain ⟨y, hy⟩ := hx f (by simp)
    rw [ho, h.1] at hy
    obtain ⟨a, ha⟩ := h.2 enc w held n _ y hy
    obtain ⟨b, hb⟩ := ih fun g hg => hx g (by simp [hg])
    refine ⟨(a, b), _, _, ?_, ha, hb⟩
    show (cs.drop off).take (A.size + B.size) = _
    rw [List.take_add, List.drop_drop]

theorem opens_struct {P : Program} {t : TypeId} {fs : Array Field} {α : Type} {A : Sp α} (ht : P.underlying t = some (.struct fs)) (hc : P.cellsOf t = A.size) (h : Fs P fs.toList 0 A) : Opens P t A := by
  refine ⟨hc, fun enc w held fuel cs x hx => ?_⟩
  obtain ⟨xs, n, _, _, hl, hlen, hf⟩ := DataW.trod_struct ht hx
  obtain ⟨a, ha⟩ := Fs.rd (enc := enc) (w := w) (held := held) (n := n) (cs := cs) h (fun f hfm => by
    obtain ⟨i, hi, rfl⟩ := List.getElem_of_mem hfm
    have e := hf i fs.toList[i] (by simp)
    rw [e, List.getElem?_eq_getElem (by simp at hi; omega)]
    exact ⟨_, rfl⟩)
  rw [List.drop_zero, List.take_of_length_le (by omega)] at ha
  exact ⟨a, ha⟩

theorem opens_arr {P : Program} {t e : TypeId} {n : Nat} {α : Type} [Inhabited α] {A : Sp α} (ht : P.underlying t = some (.array n e)) (hc : P.cellsOf t = n * A.size) (he : Opens P e A) : Opens P t (spArr n A) := by
  refine ⟨hc, fun enc w held fuel cs x hx => ?_⟩
  obtain ⟨xs, m, _, _, hl, hlen, hf⟩ := DataW.trod_array ht hx
  have each : ∀ i, i < n → ∃ y, A.rd w ((cs.drop (i * A.size)).take A.size) y := fun i hi => by
    have e := hf i hi
    rw [he.1, List.getElem?_eq_getElem (by omega)] at e
    exact he.2 enc w held m _ _ e
  obtain ⟨f, hf2⟩ := Go.Deep.choose_lt each
  exact ⟨(List.range n).map f, by simp, by omega, fun j hj => by simpa using hf2 j (by simpa using hj)⟩

/-- An argument's own value, opened. -/
theorem opens_arg {P : Program} {t : TypeId} {α : Type} {A : Sp α} (h : Opens P t A) {H : Type} {enc : TypeId × Value → H} {w : World} {held : Bool} {v : Value} {d : DataW H} {p : List MemPlace}
    (hd : DataW.Trod enc P w 0 (fun _ => true) held t v d p) : ∃ a, A.rd w v.cells.toList a := by
  obtain ⟨fuel, hf⟩ := hd
  exact h.2 enc w held fuel _ _ hf

theorem arg_struct {P : Program} {t : TypeId} {fs : Array Field} {α : Type} {A : Sp α} (ht : P.underlying t = some (.struct fs)) (h : Opens P t A) {H : Type} {enc : TypeId × Value → H} {w : World} {held : Bool} {v : Value} {d : DataW H} {p : List MemPlace} {r : Reach} {b0 : Nat}
    (hv : Value.okWide P w r b0 t v) (hd : DataW.Trod enc P w 0 (fun _ => true) held t v d p) : ∃ cs a, v = .agg cs ∧ A.rd w cs.toList a := by
  obtain ⟨cs, rfl, _⟩ := Go.WideShapes.okWide_struct ht hv
  obtain ⟨a, ha⟩ := opens_arg h hd
  exact ⟨cs, a, rfl, by simpa [Value.cells] using ha⟩
end Go.Proofs.Ytlbfljkhlkjcbaa.NumK
namespace Go.Proofs.Ytlbfljkhlkjcbaa.NumK
open Go.RowKit

/-- How an element lies in cells. -/
structure En (α : Type) where
  size : Nat
  cs : α → List Value
  len : ∀ a, (cs a).length = size
  one : ∀ a, ∀ v ∈ cs a, v.oneCell' = true
  pos : 0 < size

def En.sp {α : Type} (E : En α) : Sp α := ⟨E.size, fun _ cs a => cs = E.cs a, fun h => by rw [h]; exact E.len _, fun h _ => h⟩

/-- A row of them, wherever it lies. -/
def RowE {α : Type} (E : En α) (w : World) (A : Option Addr) (n : Nat) (l : List α) : Prop := Row E.sp w A n l

theorem Row.imp {α β : Type} {A : Sp α} {B : Sp β} (f : α → β) (hs : B.size = A.size) {w : World} (hf : ∀ cs a, A.rd w cs a → B.rd w cs (f a)) {ad : Option Addr} {n : Nat} {l : List α} (h : Row A w ad n l) : Row B w ad n (l.map f) := by
  refine ⟨by rw [List.length_map]; exact h.1, fun hn => ?_⟩
  obtain ⟨b, o, e, hb, hc⟩ := h.2 hn
  refine ⟨b, o, e, hb, fun j hj => ?_⟩
  obtain ⟨cs, h1, h2⟩ := hc j (by simpa using hj)
  exact ⟨cs, by rw [List.getElem_map]; exact hf _ _ h1, fun i hi => by rw [hs]; exact h2 i (by rw [← hs]; exact hi)⟩

theorem RowE.keep {α : Type} {E : En α} {w w' : World} {ad : Option Addr} {n : Nat} {l : List α} (h : RowE E w ad n l) (g : Grew w w') : RowE E w' ad n l := Row.keep h g
theorem RowE.nil {α : Type} (E : En α) (w : World) (ad : Option Addr) : RowE E w ad 0 [] := Row.nil _ w ad
theorem RowE.len {α : Type} {E : En α} {w : World} {ad : Option Addr} {n : Nat} {l : List α} (h : RowE E w ad n l) : l.length = n := h.1
theorem RowE.at {α : Type} {E : En α} {w : World} {ad : Option Addr} {n : Nat} {l : List α} (h : RowE E w ad n l) (hn : 0 < n) :
    ∃ b o, ad = some ⟨b, o, none⟩ ∧ b < w.heap.size ∧ ∀ j (hj : j < l.length), ∀ i, i < E.size → w.cell? ⟨b, o + j * E.size + i, none⟩ = (E.cs l[j])[i]? := by
  obtain ⟨b, o, e, hb, hc⟩ := h.2 hn
  refine ⟨b, o, e, hb, fun j hj i hi => ?_⟩
  obtain ⟨cs, h1, h2⟩ := hc j hj
  have h1 : cs = E.cs l[j] := h1
  subst h1
  exact h2 i hi
theorem RowE.take {α : Type} {E : En α} {w : World} {ad : Option Addr} {n k : Nat} {l : List α} (h : RowE E w ad n l) (hk : k ≤ n) : RowE E w ad k (l.take k) := Row.take h hk

/-- A block that the call has made, behind whatever only grows. -/
theorem own_cell {w w1 : World} {cs : Array Value} {t : TypeId} (h : Grew (w.alloc (.cells cs t)) w1) (i : Nat) : w1.cell? ⟨w.heap.size, i, none⟩ = cs[i]? :=
  (Below.cell h (p := ⟨w.heap.size, i, none⟩) (by simp)).trans (by rw [World.cell?_alloc_at _ _ _ _ (by simp)])
theorem own_back {w w1 : World} {cs : Array Value} {t : TypeId} (h : Grew (w.alloc (.cells cs t)) w1) : Grew w w1 := grew_trans (grew_alloc _ _ _) h

/-! ### what a call owns -/
def OwnE {α : Type} (E : En α) (w : World) (base : Nat) (t : TypeId) (v : Value) (l : List α) : Prop := w.ownsRow base t E.size v l.length (l.flatMap E.cs)

theorem En.flat_len {α : Type} (E : En α) (l : List α) : (l.flatMap E.cs).length = l.length * E.size := by
  induction l with
  | nil => simp
  | cons x l ih => rw [List.flatMap_cons, List.length_append, ih, E.len, List.length_cons, Nat.succ_mul, Nat.add_comm]
theorem En.flat_at {α : Type} (E : En α) (l : List α) (j : Nat) (h : j < l.length) (i : Nat) (hi : i < E.size) : (l.flatMap E.cs)[j * E.size + i]? = (E.cs l[j])[i]? := by
  induction l generalizing j with
  | nil => simp at h
  | cons x l ih =>
    rw [List.flatMap_cons]
    cases j with
    | zero =>
      rw [Nat.zero_mul, Nat.zero_add, List.getElem?_append_left (by rw [E.len]; exact hi)]; rfl
    | succ j =>
      rw [List.getElem?_append_right (by rw [E.len, Nat.succ_mul]; omega), E.len, show (j + 1) * E.size + i - E.size = j * E.size + i by rw [Nat.succ_mul]; omega, ih j (by simpa using h)]
      rfl

theorem OwnE.nil {α : Type} (E : En α) (w : World) (base : Nat) (t : TypeId) : OwnE E w base t (.slice none 0 0) [] := World.ownsRow_nil _ _ _ _
theorem OwnE.empty {α : Type} (E : En α) (w : World) (base : Nat) (t : TypeId) (hb : base ≤ w.heap.size) : OwnE E (w.alloc (.cells #[] t)) base t (.slice (some ⟨w.heap.size, 0, none⟩) 0 0) [] :=
  ⟨by simp, .inr ⟨w.heap.size, 0, #[], rfl, hb, heap_alloc_new w _, Nat.le_refl _, by unfold maxLen; omega, by simp, by simp⟩⟩
theorem OwnE.form {α : Type} {E : En α} {w : World} {base : Nat} {t : TypeId} {v : Value} {l : List α} (h : OwnE E w base t v l) :
    ∃ A c, v = .slice A l.length c ∧ RowE E w A l.length l ∧ (A = none → c = 0) ∧ l.length ≤ c ∧ c ≤ maxLen := by
  obtain ⟨_, h⟩ := h
  rcases h with ⟨rfl, h0⟩ | ⟨g, cap, cur, rfl, _, hh, hc, hm, _, ht⟩
  · obtain rfl := List.eq_nil_of_length_eq_zero h0
    exact ⟨none, 0, rfl, RowE.nil E w none, fun _ => rfl, Nat.le_refl _, by unfold maxLen; omega⟩
  · refine ⟨some ⟨g, 0, none⟩, cap, rfl, ⟨rfl, fun hn => ⟨g, 0, rfl, ?_, fun j hj => ⟨E.cs l[j], rfl, fun i hi => ?_⟩⟩⟩, (fun h => by cases h), hc, hm⟩
    · rcases Nat.lt_or_ge g w.heap.size with h1 | h1
      · exact h1
      · rw [Array.getElem?_eq_none h1] at hh; cases hh
    · have hi : i < E.size := hi
      have e1 := E.flat_at l j hj i hi
      have hlt : j * E.size + i < l.length * E.size := by
        have : (j + 1) * E.size ≤ l.length * E.size := Nat.mul_le_mul_right _ hj
        rw [Nat.succ_mul] at this; omega
      rw [← ht, List.getElem?_take, if_pos hlt, Array.getElem?_toList] at e1
      show w.cell? ⟨g, 0 + j * E.size + i, none⟩ = _
      rw [cell_of_row w g _ cur t (0, 0) hh, Nat.zero_add, e1]
theorem OwnE.keep {α : Type} {E : En α} {w w' : World} {base : Nat} {t : TypeId} {v : Value} {l : List α} (h : OwnE E w base t v l) (g : Grew w w') : OwnE E w' base t v l := by
  obtain ⟨hl, h⟩ := h
  refine ⟨hl, ?_⟩
  rcases h with h | ⟨b, cap, cur, hv, hb, hh, r⟩
  · exact Or.inl h
  · refine Or.inr ⟨b, cap, cur, hv, hb, ?_, r⟩
    rw [g.block b ?_]
    · exact hh
    · rcases Nat.lt_or_ge b w.heap.size with h1 | h1
      · exact h1
      · rw [Array.getElem?_eq_none h1] at hh; cases hh
theorem OwnE.mono {α : Type} {E : En α} {w : World} {base base2 : Nat} {t : TypeId} {v : Value} {l : List α} (h : OwnE E w base t v l) (hb : base2 ≤ base) : OwnE E w base2 t v l := by
  obtain ⟨hl, h⟩ := h
  refine ⟨hl, ?_⟩
  rcases h with h | ⟨b, cap, cur, hv, h1, hh, r⟩
  · exact Or.inl h
  · exact Or.inr ⟨b, cap, cur, hv, by omega, hh, r⟩

section
variable {w : World} {ops : Array Oper} {rest : List Oper} {o : Oper} {a : Act} {Q : Exit → Act → World → Prop}
theorem wpList_append_E {α : Type} {E : En α} (hgd : o.guard = none) (s x : Operand) (T t : TypeId) (z : Value) (by' : Nat)
    (ho : o.op = .call { callee := .builtin .append, args := #[s, x], argTypes := #[T, T] })
    (hT : Try.prog.underlying T = some (.slice t)) (hi : (Try.prog.info? t).map (fun i => (i.zero, i.size, i.bytes)) = some (some z, E.size, by')) (hz : z.cells.size = E.size)
    (base : Nat) (v : Value) (l : List α) (hs : a.eval s = v) (hown : OwnE E w base t v l)
    (A : Option Addr) (m c : Nat) (zs : List α) (hx : a.eval x = .slice A m c) (hA : A = none → c = 0) (hR : RowE E w A m zs)
    (hm : l.length + m ≤ maxLen) (hlim : (l.length + m) * by' ≤ 140737488355328) (hbase : base ≤ w.heap.size)
    (h : ∀ v' w', OwnE E w' base t v' (l ++ zs) → Below base w w' → wpList Try.prog ops Q rest (a.put o.dst v') w') : wpList Try.prog ops Q (o :: rest) a w := by
  obtain ⟨i, hi, hz0, hz1, hz2⟩ := info_parts hi
  have hl := hR.len
  cases A with
  | none =>
    have hc := hA rfl
    subst hc
    have hm0 : m = 0 := by
      rcases Nat.eq_zero_or_pos m with h0 | h0
      · exact h0
      · obtain ⟨b, o, he, _⟩ := hR.2 h0
        cases he
    subst hm0
    have hz : zs = [] := List.eq_nil_of_length_eq_zero hl
    subst hz
    exact wpList_append_own_none hgd s x T ho base t i E.size hT hi v l.length _ hs hown hx (h v w (by simpa using hown) (Below.refl _ _))
  | some ad =>
    refine wpList_append_own w hgd s x T ho base t i z E.size by' hT hi hz0 hz1 hz2 hz E.pos v l.length _ hs hown ad m c (zs.flatMap E.cs) hx (by rw [E.flat_len, hl]) (fun j u hu => ?_) (fun u hu => ?_) hm hlim hbase (fun v' w' ho' hg _ => ?_)
    · have hj : j < zs.length * E.size := by
        rw [← E.flat_len]
        rcases Nat.lt_or_ge j (zs.flatMap E.cs).length with h1 | h1
        · exact h1
        · rw [List.getElem?_eq_none h1] at hu; cases hu
      have hq : j / E.size < zs.length := Nat.div_lt_of_lt_mul (by rw [Nat.mul_comm]; exact hj)
      have hdm : j / E.size * E.size + j % E.size = j := by rw [Nat.mul_comm]; exact Nat.div_add_mod j E.size
      have hmod : j % E.size < E.size := Nat.mod_lt _ E.pos
      obtain ⟨b, o2, he, hb, hc⟩ := hR.at (by rw [← hl]; exact Nat.lt_of_le_of_lt (Nat.zero_le _) hq)
      cases he
      have e1 := hc (j / E.size) hq (j % E.size) hmod
      rw [← E.flat_at zs _ hq _ hmod, hdm, hu] at e1
      rw [addr_add, ← e1, Nat.add_assoc, hdm]
    · obtain ⟨y, _, hy⟩ := List.mem_flatMap.1 hu
      exact E.one y u hy
    · refine h v' w' ?_ ((Below.refl base w).grown hg hbase fun k hk => (hown.lt k hk).1)
      show w'.ownsRow base t E.size v' (l ++ zs).length ((l ++ zs).flatMap E.cs)
      rw [List.length_append, hl, List.flatMap_append]
      exact ho'
end
end Go.Proofs.Ytlbfljkhlkjcbaa.NumK
namespace Go.Proofs.Ytlbfljkhlkjcbaa.NumK
open Go.RowKit
set_option linter.unusedVariables false

structure OwnC (w : World) (b : Nat) (cs : List Value) : Prop where
  lt : b < w.heap.size
  c : ∀ i, i < cs.length → w.cell? ⟨b, i, none⟩ = cs[i]?
  f : ∀ i, i < cs.length → w.frozen? ⟨b, i, none⟩ = false

theorem OwnC.new (w : World) (cs : List Value) (t : TypeId) (N : Nat) (hN : N = w.heap.size) : OwnC (w.alloc (.cells cs.toArray t)) N cs := by
  subst hN
  refine ⟨by simp, fun i hi => ?_, fun i hi => ?_⟩
  · rw [World.cell?_alloc_at _ _ _ _ (by simp)]; simp
  · go_simp
theorem OwnC.keep {w w' : World} {b : Nat} {cs : List Value} (h : OwnC w b cs) (g : Grew w w') : OwnC w' b cs :=
  ⟨Nat.lt_of_lt_of_le h.lt g.size, fun i hi => (grew_cell g (p := ⟨b, i, none⟩) h.lt).trans (h.c i hi), fun i hi => (Below.frozen g (p := ⟨b, i, none⟩) h.lt).trans (h.f i hi)⟩
theorem OwnC.below {w w' : World} {b B : Nat} {cs : List Value} (h : OwnC w b cs) (g : Below B w w') (hb : b < B) : OwnC w' b cs :=
  ⟨Nat.lt_of_lt_of_le h.lt g.size, fun i hi => (Below.cell g (p := ⟨b, i, none⟩) hb).trans (h.c i hi), fun i hi => (Below.frozen g (p := ⟨b, i, none⟩) hb).trans (h.f i hi)⟩
theorem OwnC.set {w : World} {b : Nat} {cs : List Value} (h : OwnC w b cs) (i : Nat) (v : Value) (hi : i < cs.length) : OwnC (w.setCell ⟨b, i, none⟩ v) b (cs.set i v) := by
  refine ⟨by simp [World.setCell]; exact h.lt, fun j hj => ?_, fun j hj => ?_⟩
  · rw [List.length_set] at hj
    by_cases hc : i = j
    · subst hc
      rw [World.cell?_setCell_same _ _ _ ((h.c i hi).trans (List.getElem?_eq_getElem hi)), List.getElem?_set_self hi]
    · rw [World.cell?_setCell_other _ _ _ _ (by intro e; simp only [Addr.mk.injEq] at e; omega), h.c j hj, List.getElem?_set_ne hc]
  · rw [List.length_set] at hj
    rw [World.frozen?_setCell]; exact h.f j hj
theorem OwnC.other {w : World} {b : Nat} {cs : List Value} (h : OwnC w b cs) (p : Addr) (v : Value) (hp : p.block ≠ b) : OwnC (w.setCell p v) b cs :=
  ⟨by simp [World.setCell]; exact h.lt, fun i hi => (World.cell?_setCell_other _ _ _ _ (by intro e; apply hp; rw [e])).trans (h.c i hi), fun i hi => by rw [World.frozen?_setCell]; exact h.f i hi⟩
theorem OwnC.drew {w : World} {b : Nat} {cs : List Value} (h : OwnC w b cs) : OwnC w.drew b cs := h.keep (Below.drew (grew_refl w))

/-- Cells of a call's own block, written one behind the other. -/
def putC (w : World) (b : Nat) : Nat → List Value → World
  | _, [] => w
  | o, v :: vs => putC (w.setCell ⟨b, o, none⟩ v) b (o + 1) vs
theorem grew_put {w : World} (b : Nat) (hb : w.heap.size ≤ b) : ∀ (vs : List Value) (o : Nat) (w1 : World), Grew w w1 → Grew w (putC w1 b o vs)
  | [], _, _, h => h
  | v :: vs, o, w1, h => grew_put b hb vs (o + 1) _ (grew_set h v hb)
theorem OwnC.put {b : Nat} : ∀ (vs : List Value) (o : Nat) (w : World) (cs : List Value), OwnC w b cs → o + vs.length ≤ cs.length → OwnC (putC w b o vs) b (cs.take o ++ vs ++ cs.drop (o + vs.length))
  | [], o, w, cs, h, _ => by rw [List.append_nil, List.length_nil, Nat.add_zero, List.take_append_drop]; exact h
  | v :: vs, o, w, cs, h, hl => by
    rw [List.length_cons] at hl
    have h2 := OwnC.put vs (o + 1) _ _ (h.set o v (by omega)) (by rw [List.length_set]; omega)
    have e : (cs.set o v).take (o + 1) ++ vs ++ (cs.set o v).drop (o + 1 + vs.length) = cs.take o ++ (v :: vs) ++ cs.drop (o + (v :: vs).length) := by
      rw [List.take_succ_eq_append_getElem (by rw [List.length_set]; omega), List.getElem_set_self, List.take_set_of_le (Nat.le_refl _), List.drop_set_of_lt (by omega), List.length_cons, show o + 1 + vs.length = o + (vs.length + 1) by omega]
      simp
    rw [← e]; exact h2
/-- All of it. -/
theorem OwnC.all {w : World} {b : Nat} {cs : List Value} (h : OwnC w b cs) (vs : List Value) (hl : vs.length = cs.length) : OwnC (putC w b 0 vs) b vs := by
  have h2 := OwnC.put vs 0 w cs h (by omega)
  rw [List.take_zero, List.nil_append, List.drop_eq_nil_of_le (by omega), List.append_nil] at h2
  exact h2
theorem OwnC.at {w : World} {b : Nat} {cs : List Value} (h : OwnC w b cs) (i : Nat) (v : Value) (hv : cs[i]? = some v) : w.cell? ⟨b, i, none⟩ = some v := by
  rcases Nat.lt_or_ge i cs.length with h1 | h1
  · rw [h.c i h1, hv]
  · rw [List.getElem?_eq_none h1] at hv; cases hv
theorem OwnC.fr {w : World} {b : Nat} {cs : List Value} (h : OwnC w b cs) (i : Nat) (hi : i < cs.length) : w.frozen? ⟨b, i, none⟩ = false := h.f i hi
end Go.Proofs.Ytlbfljkhlkjcbaa.NumK
namespace Go.Proofs.Ytlbfljkhlkjcbaa.NumK
open Go.RowKit
set_option linter.unusedVariables false

theorem OwnE.same {α : Type} {E : En α} {w w' : World} {base : Nat} {t : TypeId} {v : Value} {l : List α} (h : OwnE E w base t v l) (hs : ∀ k, base ≤ k → w'.heap[k]? = w.heap[k]?) : OwnE E w' base t v l := by
  obtain ⟨hl, h⟩ := h
  refine ⟨hl, ?_⟩
  rcases h with h | ⟨b, cap, cur, hv, hb, hh, r⟩
  · exact Or.inl h
  · exact Or.inr ⟨b, cap, cur, hv, hb, by rw [hs b hb]; exact hh, r⟩
theorem OwnE.set {α : Type} {E : En α} {w : World} {base : Nat} {t : TypeId} {v : Value} {l : List α} (h : OwnE E w base t v l) (b i : Nat) (u : Value) (hb : b < base) : OwnE E (w.setCell ⟨b, i, none⟩ u) base t v l :=
  h.same fun k hk => Below.heap_setCell _ _ _ _ (by show k ≠ b; omega)
theorem OwnE.put {α : Type} {E : En α} {base b : Nat} {t : TypeId} {v : Value} {l : List α} (hb : b < base) : ∀ (vs : List Value) (o : Nat) (w : World), OwnE E w base t v l → OwnE E (putC w b o vs) base t v l
  | [], _, _, h => h
  | u :: vs, o, w, h => OwnE.put hb vs (o + 1) _ (h.set b o u hb)
theorem OwnC.putO {b b2 : Nat} {cs : List Value} (hb : b2 ≠ b) : ∀ (vs : List Value) (o : Nat) (w : World), OwnC w b cs → OwnC (putC w b2 o vs) b cs
  | [], _, _, h => h
  | u :: vs, o, w, h => OwnC.putO hb vs (o + 1) _ (h.other ⟨b2, o, none⟩ u hb)
theorem size_set (w : World) (p : Addr) (v : Value) : (w.setCell p v).heap.size = w.heap.size := by simp [World.setCell]
theorem le_set {n : Nat} {w : World} (p : Addr) (v : Value) (h : n ≤ w.heap.size) : n ≤ (w.setCell p v).heap.size := by rw [size_set]; exact h
end Go.Proofs.Ytlbfljkhlkjcbaa.NumK
namespace Go.Proofs.Ytlbfljkhlkjcbaa.NumK
open Go.RowKit
set_option linter.unusedVariables false

theorem grew_size {w w' : World} (g : Grew w w') : w.heap.size ≤ w'.heap.size := g.size
/-- A region's end: a struct laid into a block of the call's own. -/
theorem end_put {w w4 : World} {P : World → Prop} {b : Nat} {cs : List Value} (vs : List Value) (hl : vs.length = cs.length) (h : OwnC w4 b cs) (g : Grew w w4) (hb : w.heap.size ≤ b) (k : ∀ w5, OwnC w5 b vs → Grew w w5 → P w5) : P (putC w4 b 0 vs) :=
  k _ (h.all vs hl) (grew_put b hb vs 0 _ g)
theorem end_new {w w4 : World} {P : World → Prop} (vs : List Value) (t : TypeId) (g : Grew w w4) (k : ∀ w5, OwnC w5 w4.heap.size vs → Grew w w5 → P w5) : P (w4.alloc (.cells vs.toArray t)) :=
  k _ (OwnC.new w4 vs t _ rfl) (grew_trans g (grew_alloc _ _ _))
/-- Two structs laid into two blocks of the call's own. -/
theorem end_put2 {w w4 : World} {P : World → Prop} {b c : Nat} {cs ds : List Value} (vs us : List Value) (hv : vs.length = cs.length) (hu : us.length = ds.length) (h : OwnC w4 b cs) (h2 : OwnC w4 c ds) (g : Grew w w4) (hb : w.heap.size ≤ b) (hc : w.heap.size ≤ c) (hn : b ≠ c) (k : ∀ w5, OwnC w5 b vs → OwnC w5 c us → Grew w w5 → P w5) : P (putC (putC w4 b 0 vs) c 0 us) :=
  k _ (OwnC.putO (fun e => hn e.symm) us 0 _ (h.all vs hv)) ((OwnC.putO hn vs 0 _ h2).all us hu) (grew_put c hc us 0 _ (grew_put b hb vs 0 _ g))
theorem end_eq {P : World → Prop} {w5 : World} (k : ∀ w, w = w5 → P w) : P w5 := k _ rfl
end Go.Proofs.Ytlbfljkhlkjcbaa.NumK
namespace Go.Proofs.Ytlbfljkhlkjcbaa.NumK
open Go.RowKit
set_option linter.unusedVariables false

theorem rwithin_any (n lo hi : Int) (w : World) : Calls Try.prog 34 #[.int .i64 n, .int .i64 lo, .int .i64 hi] w fun e w' => e = .returned (.bool (wi n lo hi)) ∧ w = w' := by
  by_cases h1 : lo ≤ n <;> by_cases h2 : n ≤ hi
  all_goals
    (have HR : Hid (wi n lo hi = (decide (lo ≤ n) && decide (n ≤ hi))) := rfl
     generalize wi n lo hi = R at *
     simp only [h1, h2, decide_true, decide_false, Bool.and_true, Bool.and_false] at HR
     go_enter Try.func34, Try.ntmps34
     go_wp2
     go_ret
     exact ⟨ret_b HR.out.symm, rfl⟩)
theorem rwho_any (n : Int) (w : World) : Calls Try.prog 90 #[.int .i64 n] w fun e w' => e = .returned (.bool (wi n 1 16)) ∧ w = w' := by
  have CW := fun w => rwithin_any n 1 16 w
  generalize wi n 1 16 = R at *
  go_enter Try.func90, Try.ntmps90
  go_wp2_with (go_at_call 34; ((with_reducible refine (CW _).mono ?_); rintro e w1 ⟨rfl, rfl⟩))
  go_ret
  exact ⟨rfl, rfl⟩
end Go.Proofs.Ytlbfljkhlkjcbaa.NumK
namespace Go.Proofs.Ytlbfljkhlkjcbaa.NumK
open Go.RowKit

/-! ### numbers of 128 bits, by their halves -/
def hi64 (x : Int) : Int := x / 18446744073709551616
def lo64 (x : Int) : Int := x % 18446744073709551616
theorem w_eq (x : Int) : hi64 x * 18446744073709551616 + lo64 x = x := by unfold hi64 lo64; omega
theorem lo_bounds (x : Int) : 0 ≤ lo64 x ∧ lo64 x < 18446744073709551616 := by unfold lo64; omega
theorem w_unique (x h l : Int) (e : h * 18446744073709551616 + l = x) (h0 : 0 ≤ l) (h1 : l < 18446744073709551616) : hi64 x = h ∧ lo64 x = l := by unfold hi64 lo64; omega
def isWide (x : Int) : Bool := decide (-170141183460469231731687303715884105728 ≤ x) && decide (x < 170141183460469231731687303715884105728)
theorem isWide_iff (x : Int) : isWide x = true ↔ -170141183460469231731687303715884105728 ≤ x ∧ x < 170141183460469231731687303715884105728 := by simp [isWide]
theorem hi_bounds (x : Int) (h : isWide x = true) : -9223372036854775808 ≤ hi64 x ∧ hi64 x ≤ 9223372036854775807 := by
  rw [isWide_iff] at h; unfold hi64; omega

theorem ret_wv {x a b : Int} (h1 : a = hi64 x) (h2 : b = lo64 x) : Ending.returned (.agg #[.int .i64 a, .int .u64 b]) = .returned (.agg #[.int .i64 (hi64 (x)), .int .u64 (lo64 (x))]) := by rw [h1, h2]
theorem not_u64 (y : Int) (h0 : 0 ≤ y) (h1 : y < 18446744073709551616) : bits .xor .u64 IntKind.u64.max y = 18446744073709551615 - y := by
  obtain ⟨m, rfl⟩ := Int.eq_ofNat_of_zero_le h0
  have e1 : (BitVec.ofInt 64 IntKind.u64.max) = BitVec.allOnes 64 := by decide
  have e2 : (BitVec.ofInt 64 (m : Int)).toNat = m := by
    rw [BitVec.ofInt_natCast, BitVec.toNat_ofNat]; exact Nat.mod_eq_of_lt (by omega)
  show IntKind.u64.wrap ((BitVec.ofInt 64 IntKind.u64.max ^^^ BitVec.ofInt 64 (m : Int)).toNat : Int) = _
  rw [e1, BitVec.xor_comm, BitVec.xor_allOnes, BitVec.toNat_not, e2, IntKind.wrap_u64]
  omega
/-- The block that a call laid for its result stands as it was behind a callee that keeps what was there. -/
theorem own_cells {w w1 : World} {v0 v1 : Value} {t t2 : TypeId} {cs : Array Value} (h : Grew ((w.alloc (.cells #[v0, v1] t)).alloc (.cells cs t2)) w1) :
    w1.cell? ⟨w.heap.size, 0, none⟩ = some v0 ∧ w1.cell? ⟨w.heap.size, 1, none⟩ = some v1 ∧ w1.frozen? ⟨w.heap.size, 0, none⟩ = false ∧ w1.frozen? ⟨w.heap.size, 1, none⟩ = false ∧ w.heap.size < w1.heap.size := by
  have hs := h.size
  have hl : w.heap.size < ((w.alloc (.cells #[v0, v1] t)).alloc (.cells cs t2)).heap.size := by simp; omega
  exact ⟨(Below.cell h (p := ⟨w.heap.size, 0, none⟩) hl).trans (by simp), (Below.cell h (p := ⟨w.heap.size, 1, none⟩) hl).trans (by simp),
    (Below.frozen h (p := ⟨w.heap.size, 0, none⟩) hl).trans (by simp), (Below.frozen h (p := ⟨w.heap.size, 1, none⟩) hl).trans (by simp), by omega⟩
theorem own_grew {w w1 : World} {c1 c2 : Array Value} {t1 t2 : TypeId} (h : Grew ((w.alloc (.cells c1 t1)).alloc (.cells c2 t2)) w1) : Grew w w1 := grew_trans (grew_trans (grew_alloc _ _ _) (grew_alloc _ _ _)) h
theorem times_arith (a b : Int) (ha : -9223372036854775808 ≤ a ∧ a ≤ 9223372036854775807) (hb : -9223372036854775808 ≤ b ∧ b ≤ 9223372036854775807) :
    a.natAbs * b.natAbs ≤ 85070591730234615865843651857942052864 ∧ ((a < 0 ↔ b < 0) → a * b = (a.natAbs * b.natAbs : Nat)) ∧ ((a < 0 ↔ ¬ b < 0) → a * b = -(a.natAbs * b.natAbs : Nat)) := by
  have hp : ((a * b).natAbs) = a.natAbs * b.natAbs := Int.natAbs_mul a b
  have hs : (a < 0 ↔ b < 0) → 0 ≤ a * b := fun h => by
    by_cases c : a < 0
    · exact Int.mul_nonneg_of_nonpos_of_nonpos (by omega) (by omega)
    · exact Int.mul_nonneg (by omega) (by omega)
  have hn : (a < 0 ↔ ¬ b < 0) → a * b ≤ 0 := fun h => by
    by_cases c : a < 0
    · exact Int.mul_nonpos_of_nonpos_of_nonneg (by omega) (by omega)
    · exact Int.mul_nonpos_of_nonneg_of_nonpos (by omega) (by omega)
  have hm : a.natAbs * b.natAbs ≤ 9223372036854775808 * 9223372036854775808 := Nat.mul_le_mul (by omega) (by omega)
  generalize a.natAbs * b.natAbs = P at *
  generalize a * b = p at *
  exact ⟨by omega, fun h => by have := hs h; omega, fun h => by have := hn h; omega⟩
def intV (x : Int) : Int := if isMoney x then x else 0
theorem intV_in {x : Int} (h : isMoney x = true) : intV x = x := by simp [intV, h]
theorem intV_out {x : Int} (h : isMoney x = false) : intV x = 0 := by simp [intV, h]
theorem ret_vb {a a' : Int} {b b' : Bool} (h1 : a = a') (h2 : b = b') : Ending.returned (.tuple #[.int .i64 a, .bool b]) = .returned (.tuple #[.int .i64 a', .bool b']) := by rw [h1, h2]
theorem keep2 {w w1 w2 : World} {v0 v1 : Value} (g : Grew w1 w2) (h1 : w1.cell? ⟨w.heap.size, 0, none⟩ = some v0) (h2 : w1.cell? ⟨w.heap.size, 1, none⟩ = some v1) (h3 : w.heap.size < w1.heap.size) (h4 : Grew w w1) :
    w2.cell? ⟨w.heap.size, 0, none⟩ = some v0 ∧ w2.cell? ⟨w.heap.size, 1, none⟩ = some v1 ∧ w.heap.size < w2.heap.size ∧ Grew w w2 :=
  ⟨(grew_cell g (p := ⟨w.heap.size, 0, none⟩) h3).trans h1, (grew_cell g (p := ⟨w.heap.size, 1, none⟩) h3).trans h2, Nat.lt_of_lt_of_le h3 g.size, grew_trans h4 g⟩
theorem ret_wb {x a b : Int} {p q : Bool} (h1 : a = hi64 x) (h2 : b = lo64 x) (h3 : p = q) : Ending.returned (.tuple #[.agg #[.int .i64 a, .int .u64 b], .bool p]) = .returned (.tuple #[(.agg #[.int .i64 (hi64 (x)), .int .u64 (lo64 (x))]), .bool q]) := by rw [h1, h2, h3]
def wsV (x : Int) : Int := if isWide x then x else 0
end Go.Proofs.Ytlbfljkhlkjcbaa.NumK
namespace Go.Proofs.Ytlbfljkhlkjcbaa.NumK
open Go.RowKit

theorem maskN (a : Nat) (ha : a < 18446744073709551616) : bits .and .u64 (a : Int) 4294967295 = ((a % 4294967296 : Nat) : Int) := by
  have h := bits_and_u64_nat a 4294967295 ha (by omega)
  have e : a &&& 4294967295 = a % 4294967296 := Nat.and_two_pow_sub_one_eq_mod a 32
  rw [e] at h
  exact h
theorem divN (a : Nat) : (a : Int) / 4294967296 = ((a / 4294967296 : Nat) : Int) := by omega
theorem mulN (a b : Nat) : (a : Int) * (b : Int) = ((a * b : Nat) : Int) := (Int.natCast_mul a b).symm
theorem addN (a b : Nat) : (a : Int) + (b : Int) = ((a + b : Nat) : Int) := (Int.natCast_add a b).symm
theorem wrapN (a : Nat) (ha : a < 18446744073709551616) : IntKind.u64.wrap (a : Int) = (a : Int) := by rw [IntKind.wrap_u64]; omega
theorem wrapM (a : Nat) : IntKind.u64.wrap (a : Int) = ((a % 18446744073709551616 : Nat) : Int) := by rw [IntKind.wrap_u64]; omega

set_option maxHeartbeats 1000000 in
theorem mul64_any (x y : Nat) (hx : x < 18446744073709551616) (hy : y < 18446744073709551616) (w : World) :
    Calls Try.prog 53 #[.int .u64 x, .int .u64 y] w fun e w' => e = .returned (.tuple #[.int .u64 ((x * y / 18446744073709551616 : Nat) : Int), .int .u64 ((x * y % 18446744073709551616 : Nat) : Int)]) ∧ w = w' := by
  obtain ⟨bd, bt, bw, hhi⟩ := Lib.mul64_hi x y hx hy
  have ba := Lib.half_mul_le (a := x / 4294967296) (b := y / 4294967296) (by omega) (by omega)
  have bb := Lib.half_mul_le (a := x / 4294967296) (b := y % 4294967296) (by omega) (by omega)
  have bc := Lib.half_mul_le (a := x % 4294967296) (b := y / 4294967296) (by omega) (by omega)
  have ba' : x / 4294967296 * (y / 4294967296) < 18446744073709551616 := by omega
  have bb' : x / 4294967296 * (y % 4294967296) < 18446744073709551616 := by omega
  have bc' : x % 4294967296 * (y / 4294967296) < 18446744073709551616 := by omega
  have bh1 : x / 4294967296 * (y / 4294967296) + (x / 4294967296 * (y % 4294967296) + x % 4294967296 * (y % 4294967296) / 4294967296) / 4294967296 < 18446744073709551616 := by omega
  have bh : x / 4294967296 * (y / 4294967296) + (x / 4294967296 * (y % 4294967296) + x % 4294967296 * (y % 4294967296) / 4294967296) / 4294967296 + ((x / 4294967296 * (y % 4294967296) + x % 4294967296 * (y % 4294967296) / 4294967296) % 4294967296 + x % 4294967296 * (y / 4294967296)) / 4294967296 < 18446744073709551616 := by omega
  go_enter Try.func53, Try.ntmps53
  go_wp2
  simp only [maskN x hx, maskN y hy, divN, mulN, addN, wrapN _ bd, wrapN _ bb', wrapN _ bt, maskN _ bt, wrapN _ bc', wrapN _ bw, wrapN _ ba', wrapN _ bh1, wrapN _ bh, wrapM (x * y)]
  rw [hhi]
  go_ret2
  exact ⟨rfl, rfl⟩

end Go.Proofs.Ytlbfljkhlkjcbaa.NumK
namespace Go.Proofs.Ytlbfljkhlkjcbaa.NumK
open Go.RowKit

def sgn (n : Int) : Int := if n < 0 then -1 else 0
theorem sgn_neg {n : Int} (h : n < 0) : sgn n = -1 := by simp [sgn, h]
theorem sgn_pos {n : Int} (h : ¬ n < 0) : sgn n = 0 := by simp [sgn, h]

theorem sign_any (n : Int) (w : World) (h : -9223372036854775808 ≤ n ∧ n ≤ 9223372036854775807) :
    Calls Try.prog 57 #[.int .i64 n] w fun e w' => e = .returned (.int .i64 (sgn n)) ∧ w = w' := by
  go_enter Try.func57, Try.ntmps57
  go_wp2
  go_ret
  exact ⟨ret_i (by unfold sgn; split <;> omega), rfl⟩

theorem hi_of (n : Int) (h : -9223372036854775808 ≤ n ∧ n ≤ 9223372036854775807) : sgn n = hi64 n := by unfold sgn hi64; split <;> omega
end Go.Proofs.Ytlbfljkhlkjcbaa.NumK
namespace Go.Proofs.Ytlbfljkhlkjcbaa.NumK
open Go.RowKit

theorem and_m1 (b : Int) (h : -9223372036854775808 ≤ b ∧ b ≤ 9223372036854775807) : bits .and .i64 (-1) b = b := by
  have e1 : (BitVec.ofInt 64 (-1)) = BitVec.allOnes 64 := by decide
  show IntKind.i64.wrap ((BitVec.ofInt 64 (-1) &&& BitVec.ofInt 64 b).toNat : Int) = b
  rw [e1, BitVec.allOnes_and, BitVec.toNat_ofInt, IntKind.wrap_i64]
  omega
theorem and_zero (b : Int) : bits .and .i64 0 b = 0 := by
  show IntKind.i64.wrap ((BitVec.ofInt 64 0 &&& BitVec.ofInt 64 b).toNat : Int) = 0
  have e1 : (BitVec.ofInt 64 0) = 0#64 := by decide
  rw [e1, BitVec.zero_and]; rfl

theorem times_parts (a b : Int) (ha : -9223372036854775808 ≤ a ∧ a ≤ 9223372036854775807) (hb : -9223372036854775808 ≤ b ∧ b ≤ 9223372036854775807) :
    ∃ x y : Nat, IntKind.u64.wrap a = x ∧ IntKind.u64.wrap b = y ∧ x < 18446744073709551616 ∧ y < 18446744073709551616 ∧ ((x * y % 18446744073709551616 : Nat) : Int) = lo64 (a * b) ∧
      (a < 0 → b < 0 → ((x * y / 18446744073709551616 : Nat) : Int) = hi64 (a * b) + b + a + 18446744073709551616) ∧
      (a < 0 → ¬ b < 0 → ((x * y / 18446744073709551616 : Nat) : Int) = hi64 (a * b) + b) ∧
      (¬ a < 0 → b < 0 → ((x * y / 18446744073709551616 : Nat) : Int) = hi64 (a * b) + a) ∧
      (¬ a < 0 → ¬ b < 0 → ((x * y / 18446744073709551616 : Nat) : Int) = hi64 (a * b)) := by
  refine ⟨(IntKind.u64.wrap a).toNat, (IntKind.u64.wrap b).toNat, by rw [IntKind.wrap_u64]; omega, by rw [IntKind.wrap_u64]; omega, by rw [IntKind.wrap_u64]; omega, by rw [IntKind.wrap_u64]; omega, ?_⟩
  rw [IntKind.wrap_u64, IntKind.wrap_u64]
  obtain ⟨x, hx⟩ : ∃ x : Nat, (a % 18446744073709551616).toNat = x := ⟨_, rfl⟩
  obtain ⟨y, hy⟩ : ∃ x : Nat, (b % 18446744073709551616).toNat = x := ⟨_, rfl⟩
  rw [hx, hy]
  have hP : ((x * y : Nat) : Int) = (x : Int) * (y : Int) := Int.natCast_mul x y
  unfold hi64 lo64
  by_cases c1 : a < 0 <;> by_cases c2 : b < 0
  · have e1 : (x : Int) = a + 18446744073709551616 := by omega
    have e2 : (y : Int) = b + 18446744073709551616 := by omega
    rw [e1, e2, Int.add_mul, Int.mul_add, Int.mul_add] at hP
    generalize x * y = P at *
    generalize a * b = p at *
    omega
  · have e1 : (x : Int) = a + 18446744073709551616 := by omega
    have e2 : (y : Int) = b := by omega
    rw [e1, e2, Int.add_mul] at hP
    generalize x * y = P at *
    generalize a * b = p at *
    omega
  · have e1 : (x : Int) = a := by omega
    have e2 : (y : Int) = b + 18446744073709551616 := by omega
    rw [e1, e2, Int.mul_add] at hP
    generalize x * y = P at *
    generalize a * b = p at *
    omega
  · have e1 : (x : Int) = a := by omega
    have e2 : (y : Int) = b := by omega
    rw [e1, e2] at hP
    generalize x * y = P at *
    generalize a * b = p at *
    omega

set_option maxHeartbeats 1000000 in
theorem wtimes_any (a b : Int) (w : World) (ha : -9223372036854775808 ≤ a ∧ a ≤ 9223372036854775807) (hb : -9223372036854775808 ≤ b ∧ b ≤ 9223372036854775807) :
    Calls Try.prog 32 #[.int .i64 a, .int .i64 b] w fun e w' => e = .returned (.agg #[.int .i64 (hi64 (a * b)), .int .u64 (lo64 (a * b))]) ∧ Grew w w' := by
  obtain ⟨x, y, h1, h2, h3, h4, h5, q1, q2, q3, q4⟩ := times_parts a b ha hb
  have M := mul64_any x y h3 h4
  have C1 := fun w => sign_any a w ha
  have C2 := fun w => sign_any b w hb
  have HB : Hid (isWide (a * b) = true) := by
    obtain ⟨t1, t2, t3⟩ := times_arith a b ha hb
    show isWide (a * b) = true
    rw [isWide_iff]
    generalize a * b = p at *
    generalize a.natAbs * b.natAbs = P at *
    omega
  rw [h5] at M
  generalize ((x * y / 18446744073709551616 : Nat) : Int) = hp at *
  clear h3 h4 h5
  by_cases c1 : a < 0 <;> by_cases c2 : b < 0
  · have s1 : sgn a = -1 := sgn_neg c1
    have s2 : sgn b = -1 := sgn_neg c2
    rw [s1] at C1
    rw [s2] at C2
    have l1 : bits .and .i64 (-1) b = b := and_m1 b hb
    have l2 : bits .and .i64 (-1) a = a := and_m1 a ha
    have L := Lib.hid (q1 c1 c2)
    clear q1 q2 q3 q4 s1 s2 c1 c2
    go_enter Try.func32, Try.ntmps32
    go_wp2_with (first
      | (go_at_call 53; ((with_reducible refine (M _).mono ?_); rintro e w' ⟨rfl, rfl⟩))
      | (go_at_call 57; ((with_reducible refine (C1 _).mono ?_); rintro e w' ⟨rfl, rfl⟩))
      | (go_at_call 57; ((with_reducible refine (C2 _).mono ?_); rintro e w' ⟨rfl, rfl⟩)))
    exact bodyPost_ret (v := .agg #[.int .i64 (wrap64 (wrap64 (wrap64 hp - b) - a)), .int .u64 (lo64 (a * b))]) (by simp [results, Try.results32, go_sem]) rfl ⟨ret_wv (by have l := L.out; have h := hi_bounds _ HB.out; unfold wrap64; omega) rfl, grew_alloc _ _ _⟩
  · have s1 : sgn a = -1 := sgn_neg c1
    have s2 : sgn b = 0 := sgn_pos c2
    rw [s1] at C1
    rw [s2] at C2
    have l1 : bits .and .i64 (-1) b = b := and_m1 b hb
    have l2 : bits .and .i64 (0) a = 0 := and_zero a
    have L := Lib.hid (q2 c1 c2)
    clear q1 q2 q3 q4 s1 s2 c1 c2
    go_enter Try.func32, Try.ntmps32
    go_wp2_with (first
      | (go_at_call 53; ((with_reducible refine (M _).mono ?_); rintro e w' ⟨rfl, rfl⟩))
      | (go_at_call 57; ((with_reducible refine (C1 _).mono ?_); rintro e w' ⟨rfl, rfl⟩))
      | (go_at_call 57; ((with_reducible refine (C2 _).mono ?_); rintro e w' ⟨rfl, rfl⟩)))
    exact bodyPost_ret (v := .agg #[.int .i64 (wrap64 (wrap64 (wrap64 hp - b))), .int .u64 (lo64 (a * b))]) (by simp [results, Try.results32, go_sem]) rfl ⟨ret_wv (by have l := L.out; have h := hi_bounds _ HB.out; unfold wrap64; omega) rfl, grew_alloc _ _ _⟩
  · have s1 : sgn a = 0 := sgn_pos c1
    have s2 : sgn b = -1 := sgn_neg c2
    rw [s1] at C1
    rw [s2] at C2
    have l1 : bits .and .i64 (0) b = 0 := and_zero b
    have l2 : bits .and .i64 (-1) a = a := and_m1 a ha
    have L := Lib.hid (q3 c1 c2)
    clear q1 q2 q3 q4 s1 s2 c1 c2
    go_enter Try.func32, Try.ntmps32
    go_wp2_with (first
      | (go_at_call 53; ((with_reducible refine (M _).mono ?_); rintro e w' ⟨rfl, rfl⟩))
      | (go_at_call 57; ((with_reducible refine (C1 _).mono ?_); rintro e w' ⟨rfl, rfl⟩))
      | (go_at_call 57; ((with_reducible refine (C2 _).mono ?_); rintro e w' ⟨rfl, rfl⟩)))
    exact bodyPost_ret (v := .agg #[.int .i64 (wrap64 (wrap64 (wrap64 hp) - a)), .int .u64 (lo64 (a * b))]) (by simp [results, Try.results32, go_sem]) rfl ⟨ret_wv (by have l := L.out; have h := hi_bounds _ HB.out; unfold wrap64; omega) rfl, grew_alloc _ _ _⟩
  · have s1 : sgn a = 0 := sgn_pos c1
    have s2 : sgn b = 0 := sgn_pos c2
    rw [s1] at C1
    rw [s2] at C2
    have l1 : bits .and .i64 (0) b = 0 := and_zero b
    have l2 : bits .and .i64 (0) a = 0 := and_zero a
    have L := Lib.hid (q4 c1 c2)
    clear q1 q2 q3 q4 s1 s2 c1 c2
    go_enter Try.func32, Try.ntmps32
    go_wp2_with (first
      | (go_at_call 53; ((with_reducible refine (M _).mono ?_); rintro e w' ⟨rfl, rfl⟩))
      | (go_at_call 57; ((with_reducible refine (C1 _).mono ?_); rintro e w' ⟨rfl, rfl⟩))
      | (go_at_call 57; ((with_reducible refine (C2 _).mono ?_); rintro e w' ⟨rfl, rfl⟩)))
    exact bodyPost_ret (v := .agg #[.int .i64 (wrap64 (wrap64 (wrap64 hp))), .int .u64 (lo64 (a * b))]) (by simp [results, Try.results32, go_sem]) rfl ⟨ret_wv (by have l := L.out; have h := hi_bounds _ HB.out; unfold wrap64; omega) rfl, grew_alloc _ _ _⟩
end Go.Proofs.Ytlbfljkhlkjcbaa.NumK
namespace Go.Proofs.Ytlbfljkhlkjcbaa.NumK
open Go.RowKit

set_option maxHeartbeats 400000 in
theorem right_any (A : Option Addr) (n c : Nat) (zs : List Int) (w : World) (hz : Ints w A n zs) (hn : n ≤ 9223372036854775807) :
    Calls Try.prog 30 #[.slice A n c] w fun e w' => e = .returned (.bool (zs.all isMoney)) ∧ w = w' := by
  have HZ : Hid (Ints w A n zs) := hz
  clear hz
  go_enter Try.func30, Try.ntmps30
  go_wp2
  go_loop [7] (fun i => ∃ k : Nat, k ≤ n ∧ i = .int .i64 k ∧ Hid ((zs.take k).all isMoney = true)) (fun i => n - (intOf i).toNat)
  case atStart => exact ⟨0, Nat.zero_le _, rfl, by simp [Hid]⟩
  case round =>
    obtain ⟨k, hk, rfl, HK⟩ := hrel
    by_cases hlt : k < n
    · obtain ⟨b, o, rfl, _, hc⟩ := HZ.out.2 (by omega)
      have hcell := hc k hlt
      have hl := HZ.out.1
      have hs := all_take_succ zs k (by omega)
      have HS : Hid ((zs.take (k + 1)).all isMoney = isMoney (zs.getD k 0)) := by rw [hs, HK.out]; simp [Hid]
      clear hs hc hl
      generalize hy : zs.getD k 0 = y at *
      have HY : Hid (zs.getD k 0 = y) := hy
      clear hy
      by_cases h1 : y < -4611686018427387904
      · go_wp2
        go_ret
        exact ⟨ret_b (all_false zs k (by have := HZ.out.1; omega) y HY.out (by omega)), rfl⟩
      · by_cases h2 : 4611686018427387904 < y
        · go_wp2
          go_ret
          exact ⟨ret_b (all_false zs k (by have := HZ.out.1; omega) y HY.out (by omega)), rfl⟩
        · go_wp2
          go_round
          case rel => exact ⟨k + 1, by omega, by go_num, HS.out.trans ((isMoney_iff y).2 ⟨by omega, by omega⟩)⟩
          case measure => simp [intOf]; omega
    · have : k = n := by omega
      subst this
      go_wp2
      go_ret
      have h1 := HK.out
      rw [List.take_of_length_le (by have := HZ.out.1; omega)] at h1
      exact ⟨ret_b h1.symm, rfl⟩

end Go.Proofs.Ytlbfljkhlkjcbaa.NumK
namespace Go.Proofs.Ytlbfljkhlkjcbaa.NumK
open Go.RowKit

theorem add64 (x y c : Int) (hx : 0 ≤ x) (hy : 0 ≤ y) (hc0 : 0 ≤ c) (hc : c ≤ 1) (w : World) : (callFunc 56 #[.int .u64 x, .int .u64 y, .int .u64 c]).run Try.prog w =
    .ok (.value (.tuple #[.int .u64 ((x + y + c) % 18446744073709551616), .int .u64 ((x + y + c) / 18446744073709551616)])) w := by
  rw [run_callFunc_extern Try.func56 (by kernel_rfl) (by kernel_rfl) (by kernel_rfl) (e := add64Entry) (by kernel_rfl), run_add64 x y c hx hy hc0 hc]
  rfl
theorem add64_named (x y c s d : Int) (hx : 0 ≤ x) (hy : 0 ≤ y) (hc0 : 0 ≤ c) (hc : c ≤ 1) (hs : s = (x + y + c) % 18446744073709551616) (hd : d = (x + y + c) / 18446744073709551616) (w : World) :
    (callFunc 56 #[.int .u64 x, .int .u64 y, .int .u64 c]).run Try.prog w = .ok (.value (.tuple #[.int .u64 s, .int .u64 d])) w := by
  rw [hs, hd]; exact add64 x y c hx hy hc0 hc w
end Go.Proofs.Ytlbfljkhlkjcbaa.NumK
namespace Go.Proofs.Ytlbfljkhlkjcbaa.NumK
open Go.RowKit

/-! ### a slice of wides -/
def wcells (x : Int) : List Value := [.int .i64 (hi64 x), .int .u64 (lo64 x)]
def Wides (w : World) (A : Option Addr) (n : Nat) (xs : List Int) : Prop :=
  xs.length = n ∧ (0 < n → ∃ b o, A = some ⟨b, o, none⟩ ∧ b < w.heap.size ∧ ∀ j, j < n → w.cell? ⟨b, o + j * 2, none⟩ = some (.int .i64 (hi64 (xs.getD j 0))) ∧ w.cell? ⟨b, o + j * 2 + 1, none⟩ = some (.int .u64 (lo64 (xs.getD j 0))))

theorem sum_take_succ (xs : List Int) (k : Nat) (h : k < xs.length) : (xs.take (k + 1)).sum = (xs.take k).sum + xs.getD k 0 := by
  rw [List.take_succ_eq_append_getElem h, List.sum_append]
  simp [List.getD, List.getElem?_eq_getElem h]

theorem wcells_len (xs : List Int) : (xs.flatMap wcells).length = xs.length * 2 := by
  induction xs with
  | nil => rfl
  | cons x xs ih => rw [List.flatMap_cons, List.length_append, ih]; simp [wcells]; omega
theorem wcells_at (xs : List Int) (j : Nat) (h : j < xs.length) : (xs.flatMap wcells)[j * 2]? = some (.int .i64 (hi64 (xs.getD j 0))) ∧ (xs.flatMap wcells)[j * 2 + 1]? = some (.int .u64 (lo64 (xs.getD j 0))) := by
  induction xs generalizing j with
  | nil => simp at h
  | cons x xs ih =>
    cases j with
    | zero => simp [wcells, List.flatMap_cons]
    | succ j =>
      have := ih j (by simpa using h)
      rw [List.flatMap_cons, show (j + 1) * 2 = j * 2 + 1 + 1 from by omega]
      simpa [wcells] using this

theorem wides_of_own {w : World} {base : Nat} {e : TypeId} {v : Value} {n : Nat} {xs : List Int} (h : w.ownsRow base e 2 v n (xs.flatMap wcells)) :
    ∃ A c, v = .slice A n c ∧ Wides w A n xs := by
  obtain ⟨hl, h⟩ := h
  rw [wcells_len] at hl
  have hl : xs.length = n := by omega
  rcases h with ⟨rfl, rfl⟩ | ⟨g, cap, cur, rfl, _, hh, _, _, _, ht⟩
  · exact ⟨none, 0, rfl, ⟨hl, fun h => absurd h (by omega)⟩⟩
  · refine ⟨some ⟨g, 0, none⟩, cap, rfl, ⟨hl, fun hn => ⟨g, 0, rfl, ?_, fun j hj => ?_⟩⟩⟩
    · rcases Nat.lt_or_ge g w.heap.size with h1 | h1
      · exact h1
      · rw [Array.getElem?_eq_none h1] at hh; cases hh
    · obtain ⟨w1, w2⟩ := wcells_at xs j (by omega)
      rw [cell_of_row w g (0 + j * 2) cur e (0, 0) hh, cell_of_row w g (0 + j * 2 + 1) cur e (0, 0) hh, Nat.zero_add]
      rw [← ht, List.getElem?_take, if_pos (by omega)] at w1 w2
      rw [Array.getElem?_toList] at w1 w2
      exact ⟨w1, w2⟩

theorem own_keep {w w2 : World} {base : Nat} {e : TypeId} {size : Nat} {v : Value} {n : Nat} {xs : List Value} (h : w.ownsRow base e size v n xs) (g : Grew w w2) : w2.ownsRow base e size v n xs := by
  obtain ⟨hl, h⟩ := h
  refine ⟨hl, ?_⟩
  rcases h with h | ⟨b, cap, cur, hv, hb, hh, r⟩
  · exact Or.inl h
  · refine Or.inr ⟨b, cap, cur, hv, hb, ?_, r⟩
    rw [g.block b ?_]
    · exact hh
    · rcases Nat.lt_or_ge b w.heap.size with h1 | h1
      · exact h1
      · rw [Array.getElem?_eq_none h1] at hh; cases hh

theorem info_wide : (Try.prog.info? 64).map (fun i => (i.zero, i.size, i.bytes)) = some (some (.agg #[.int .i64 0, .int .u64 0]), 2, 16) := by kernel_rfl

section
variable {w : World} {ops : Array Oper} {rest : List Oper} {o : Oper} {a : Act} {Q : Exit → Act → World → Prop}
theorem wpList_append_wide (hgd : o.guard = none) (s x : Operand)
    (ho : o.op = .call { callee := .builtin .append, args := #[s, x], argTypes := #[61, 61] })
    (base : Nat) (v : Value) (n : Nat) (xs : List Int) (hs : a.eval s = v) (hown : w.ownsRow base 64 2 v n (xs.flatMap wcells))
    (b c : Nat) (z : Int) (hx : a.eval x = .slice (some ⟨b, 0, none⟩) 1 c) (h0 : w.cell? ⟨b, 0, none⟩ = some (.int .i64 (hi64 z))) (h1 : w.cell? ⟨b, 1, none⟩ = some (.int .u64 (lo64 z)))
    (h63 : n + 1 ≤ 1000000) (hbase : base ≤ w.heap.size)
    (h : ∀ v' w', w'.ownsRow base 64 2 v' (n + 1) ((xs ++ [z]).flatMap wcells) → Below base w w' → wpList Try.prog ops Q rest (a.put o.dst v') w') : wpList Try.prog ops Q (o :: rest) a w := by
  obtain ⟨i, hi, hz0, hz1, hz2⟩ := info_parts info_wide
  refine wpList_append_own w hgd s x 61 ho base 64 i _ 2 16 Try.underlying61 hi hz0 hz1 hz2 rfl (by decide) v n _ hs hown ⟨b, 0, none⟩ 1 c (wcells z) hx
      rfl (fun j u hu => ?_) (fun u hu => ?_) (by unfold maxLen; omega) (by omega) hbase (fun v' w' ho' hg _ => ?_)
  · match j, hu with
    | 0, hu => simp [wcells] at hu; subst hu; simpa [Addr.add] using h0
    | 1, hu => simp [wcells] at hu; subst hu; simpa [Addr.add] using h1
    | j + 2, hu => simp [wcells] at hu
  · simp [wcells] at hu
    rcases hu with rfl | rfl <;> rfl
  · refine h v' w' (by rw [List.flatMap_append]; simpa using ho') ((Below.refl base w).grown hg hbase fun k hk => ?_)
    rcases hown.2 with ⟨rfl, _⟩ | ⟨g, cap, cur, rfl, hg', _⟩
    · simp [Value.ownBlock] at hk
    · simp [Value.ownBlock] at hk; omega
end

theorem take_map_succ (zs : List Int) (k : Nat) (h : k < zs.length) : zs.take k ++ [zs.getD k 0] = zs.take (k + 1) := by
  rw [List.take_succ_eq_append_getElem h]
  simp [List.getD, List.getElem?_eq_getElem h]

theorem sum_wide (zs : List Int) (hb : ∀ z ∈ zs, -9223372036854775808 ≤ z ∧ z ≤ 9223372036854775807) (hn : zs.length ≤ 1000000) : isWide zs.sum = true := by
  have key : ∀ l : List Int, (∀ z ∈ l, -9223372036854775808 ≤ z ∧ z ≤ 9223372036854775807) → -(l.length * 9223372036854775808) ≤ l.sum ∧ l.sum ≤ l.length * 9223372036854775808 := by
    intro l
    induction l with
    | nil => intro _; simp
    | cons z l ih =>
      intro h
      have h1 := h z (by simp)
      have h2 := ih fun y hy => h y (by simp [hy])
      simp only [List.sum_cons, List.length_cons]
      omega
  have := key zs hb
  rw [isWide_iff]
  omega

end Go.Proofs.Ytlbfljkhlkjcbaa.NumK
namespace Go.Proofs.Ytlbfljkhlkjcbaa.NumK
open Go.RowKit

theorem Wides.keep {w w' : World} {A : Option Addr} {n : Nat} {xs : List Int} (h : Wides w A n xs) (g : Grew w w') : Wides w' A n xs :=
  ⟨h.1, fun hn => by
    obtain ⟨b, o, e, hb, hc⟩ := h.2 hn
    exact ⟨b, o, e, Nat.lt_of_lt_of_le hb g.size, fun j hj => ⟨(grew_cell g (p := ⟨b, o + j * 2, none⟩) hb).trans (hc j hj).1, (grew_cell g (p := ⟨b, o + j * 2 + 1, none⟩) hb).trans (hc j hj).2⟩⟩⟩

def wideE (x : Int) : Int := if isWide x then 0 else 1

/-- The block of its own that a call laid first stands as it was. -/
theorem own_first {w w1 : World} {v0 v1 : Value} {t : TypeId} (h : Grew (w.alloc (.cells #[v0, v1] t)) w1) :
    w1.cell? ⟨w.heap.size, 0, none⟩ = some v0 ∧ w1.cell? ⟨w.heap.size, 1, none⟩ = some v1 ∧ w1.frozen? ⟨w.heap.size, 0, none⟩ = false ∧ w1.frozen? ⟨w.heap.size, 1, none⟩ = false ∧ w.heap.size < w1.heap.size := by
  have hs := h.size
  have hl : w.heap.size < (w.alloc (.cells #[v0, v1] t)).heap.size := by simp
  exact ⟨(Below.cell h (p := ⟨w.heap.size, 0, none⟩) hl).trans (by simp), (Below.cell h (p := ⟨w.heap.size, 1, none⟩) hl).trans (by simp),
    (Below.frozen h (p := ⟨w.heap.size, 0, none⟩) hl).trans (by simp), (Below.frozen h (p := ⟨w.heap.size, 1, none⟩) hl).trans (by simp), by omega⟩

theorem ret_we {x a b : Int} {p q : Int} (h1 : a = hi64 x) (h2 : b = lo64 x) (h3 : p = q) : Ending.returned (.tuple #[.agg #[.int .i64 a, .int .u64 b], .int .i64 p]) = .returned (.tuple #[(.agg #[.int .i64 (hi64 (x)), .int .u64 (lo64 (x))]), .int .i64 q]) := by rw [h1, h2, h3]

set_option maxRecDepth 100000 in
set_option maxHeartbeats 2000000 in
theorem wsum_any (A : Option Addr) (n c : Nat) (xs : List Int) (w : World) (hz : Wides w A n xs) (hw : ∀ x ∈ xs, isWide x = true) (hn : n ≤ 1000000) :
    Calls Try.prog 31 #[.slice A n c] w fun e w' => e = .returned (.tuple #[(.agg #[.int .i64 (hi64 (wsV xs.sum)), .int .u64 (lo64 (wsV xs.sum))]), .int .i64 (wideE xs.sum)]) ∧ Grew w w' := by
  have HZ := Lib.hid hz
  have HW := Lib.hid hw
  clear hz hw
  go_enter Try.func31, Try.ntmps31
  go_wp2
  go_loopw [4, 5, 6, 12] (fun t h l i wr => ∃ (k : Nat) (T H L : Int), k ≤ n ∧ i = .int .i64 k ∧ t = .int .i64 T ∧ h = .int .u64 H ∧ l = .int .u64 L ∧ Hid (T * 340282366920938463463374607431768211456 + H * 18446744073709551616 + L = (xs.take k).sum) ∧
      0 ≤ H ∧ H < 18446744073709551616 ∧ 0 ≤ L ∧ L < 18446744073709551616 ∧ -(k : Int) ≤ T ∧ T ≤ k ∧ Hid (Grew (w.alloc (.cells #[.int .i64 0, .int .u64 0] 64)) wr)) (fun _ _ _ i _ => n - (intOf i).toNat)
  case atStart => exact ⟨0, 0, 0, 0, Nat.zero_le _, rfl, rfl, rfl, rfl, rfl, by omega, by omega, by omega, by omega, by omega, by omega, grew_refl _⟩
  case round =>
    obtain ⟨k, T, H, L, hk, rfl, rfl, rfl, rfl, HS, h0, h1, l0, l1, t0, t1, HG⟩ := hrel
    by_cases hlt : k < n
    · obtain ⟨b, o, rfl, hb, hc⟩ := (HZ.out.keep (grew_trans (grew_alloc _ _ _) HG.out)).2 (by omega)
      obtain ⟨hc0, hc1⟩ := hc k hlt
      have hst := sum_take_succ xs k (by have := HZ.out.1; omega)
      have hwx : isWide (xs.getD k 0) = true := HW.out _ (by rw [List.getD_eq_getElem?_getD, List.getElem?_eq_getElem (by have := HZ.out.1; omega)]; exact List.getElem_mem _)
      generalize xs.getD k 0 = x at *
      have bx := lo_bounds x
      have bh := hi_bounds x hwx
      have ex := w_eq x
      have CS := fun w => sign_any (hi64 x) w bh
      have bs : (hi64 x < 0 → sgn (hi64 x) = -1) ∧ (¬ hi64 x < 0 → sgn (hi64 x) = 0) := ⟨sgn_neg, sgn_pos⟩
      generalize sgn (hi64 x) = sg at *
      obtain ⟨s1, hs1⟩ : ∃ s, s = (L + lo64 x + 0) % 18446744073709551616 := ⟨_, rfl⟩
      obtain ⟨d1, hd1⟩ : ∃ s, s = (L + lo64 x + 0) / 18446744073709551616 := ⟨_, rfl⟩
      have A1 := add64_named L (lo64 x) 0 s1 d1 (by omega) (by omega) (by omega) (by omega) hs1 hd1
      have ew : 0 ≤ IntKind.u64.wrap (hi64 x) ∧ IntKind.u64.wrap (hi64 x) < 18446744073709551616 ∧ (hi64 x < 0 → IntKind.u64.wrap (hi64 x) = hi64 x + 18446744073709551616) ∧ (0 ≤ hi64 x → IntKind.u64.wrap (hi64 x) = hi64 x) := by rw [IntKind.wrap_u64]; omega
      obtain ⟨s2, hs2⟩ : ∃ s, s = (H + IntKind.u64.wrap (hi64 x) + d1) % 18446744073709551616 := ⟨_, rfl⟩
      obtain ⟨d2, hd2⟩ : ∃ s, s = (H + IntKind.u64.wrap (hi64 x) + d1) / 18446744073709551616 := ⟨_, rfl⟩
      have A2 := add64_named H (IntKind.u64.wrap (hi64 x)) d1 s2 d2 (by omega) (by omega) (by omega) (by omega) hs2 hd2
      have f1 : 0 ≤ s1 ∧ s1 < 18446744073709551616 := by omega
      have f2 : 0 ≤ s2 ∧ s2 < 18446744073709551616 := by omega
      have f3 : 0 ≤ d2 ∧ d2 ≤ 1 := by omega
      have f4 : -1 ≤ sg ∧ sg ≤ 0 := by omega
      have HN : Hid ((T + (sg + d2)) * 340282366920938463463374607431768211456 + s2 * 18446744073709551616 + s1 = (xs.take (k + 1)).sum) := by
        have := HS.out
        show _ = _
        rw [hst]
        by_cases c : hi64 x < 0
        · have := bs.1 c; have := ew.2.2.1 c; omega
        · have := bs.2 c; have := ew.2.2.2 (by omega); omega
      generalize eh : IntKind.u64.wrap (hi64 x) = hw at *
      clear hst hwx bx bh ex ew hs1 hd1 hs2 hd2 hc bs
      generalize hi64 x = hh at *
      generalize lo64 x = ll at *
      obtain ⟨f1, f2'⟩ := f1
      obtain ⟨f3', f4'⟩ := f2
      obtain ⟨f5, f6⟩ := f3
      obtain ⟨f7, f8⟩ := f4
      go_wp2_with (first | (go_at_call 57; refine (CS _).mono ?_; rintro e w1 ⟨rfl, rfl⟩) | rw [A1] | rw [A2])
      go_roundw
      case rel => exact ⟨k + 1, T + (sg + d2), s2, s1, by omega, by go_num, by go_num, rfl, rfl, HN, by omega, by omega, by omega, by omega, by omega, by omega, grew_trans HG.out (grew_alloc _ _ _)⟩
      case measure => simp [intOf]; omega
    · have hkn : k = n := by omega
      subst hkn
      have ht : xs.take k = xs := List.take_of_length_le (by have := HZ.out.1; omega)
      have hS := HS.out
      rw [ht] at hS
      have hwr : wrap64 H = if H < 9223372036854775808 then H else H - 18446744073709551616 := by unfold wrap64; split <;> omega
      have hwb : -9223372036854775808 ≤ wrap64 H ∧ wrap64 H ≤ 9223372036854775807 := by rw [hwr]; split <;> omega
      have hsg : sgn (wrap64 H) = if H < 9223372036854775808 then 0 else -1 := by rw [hwr]; split <;> (unfold sgn; split <;> omega)
      have hwid : isWide xs.sum = true ↔ T = sgn (wrap64 H) := by rw [hsg, isWide_iff]; split <;> omega
      have hval : T = sgn (wrap64 H) → wrap64 H = hi64 xs.sum ∧ L = lo64 xs.sum := fun h => by
        rw [hsg] at h
        have := w_unique xs.sum (wrap64 H) L (by rw [hwr]; split at h <;> (split <;> omega)) l0 l1
        exact ⟨this.1.symm, this.2.symm⟩
      have hz0 : (0 : Int) = hi64 0 ∧ (0 : Int) = lo64 0 := by decide
      have CS := fun w => sign_any (wrap64 H) w hwb
      have HD := Lib.hid hwid
      have HV := Lib.hid hval
      have HZ0 := Lib.hid hz0
      obtain ⟨o1, o2, o3, o4, o5⟩ := own_first HG.out
      have GF := Lib.hid (grew_trans (grew_alloc _ _ _) HG.out)
      clear ht hS hwr hwid hval hz0 hlt t0 t1 h0 h1 l0 l1 hwb hsg
      generalize eg : wrap64 H = g at *
      generalize sgn g = sg at *
      by_cases c1 : T = sg
      · subst c1
        have Y := Lib.hid (HD.out.2 rfl)
        have V := Lib.hid (HV.out rfl)
        go_wp2_with (go_at_call 57; refine (CS _).mono ?_; rintro e w1 ⟨rfl, rfl⟩)
        exact bodyPost_ret (v := .tuple #[.agg #[.int .i64 g, .int .u64 L], .int .i64 0]) (by simp [results, Try.results31, go_sem, o1, o2]) rfl ⟨ret_we (by rw [wsV, if_pos Y.out]; exact V.out.1) (by rw [wsV, if_pos Y.out]; exact V.out.2) (by rw [wideE, if_pos Y.out]), grew_set (grew_set GF.out _ (Nat.le_refl _)) _ (Nat.le_refl _)⟩
      · have Y : Hid (isWide xs.sum = false) := by show _ = _; rw [← Bool.not_eq_true, HD.out]; exact c1
        have d1 : (T != sg) = true := by simpa using c1
        clear c1
        go_wp2_with (go_at_call 57; refine (CS _).mono ?_; rintro e w1 ⟨rfl, rfl⟩)
        exact bodyPost_ret (v := .tuple #[.agg #[.int .i64 0, .int .u64 0], .int .i64 1]) (by simp [results, Try.results31, go_sem, o1, o2]) rfl ⟨ret_we (by rw [wsV, Y.out]; exact HZ0.out.1) (by rw [wsV, Y.out]; exact HZ0.out.2) (by rw [wideE, Y.out]; rfl), grew_set (grew_set GF.out _ (Nat.le_refl _)) _ (Nat.le_refl _)⟩
end Go.Proofs.Ytlbfljkhlkjcbaa.NumK
namespace Go.Proofs.Ytlbfljkhlkjcbaa.NumK
open Go.RowKit

/-! ### products -/
theorem size_any (n : Int) (w : World) (h : isMoney n = true) :
    Calls Try.prog 89 #[.int .i64 n] w fun e w' => e = .returned (.int .u64 (n.natAbs : Int)) ∧ w = w' := by
  rw [isMoney_iff] at h
  obtain ⟨h1, h2⟩ := h
  by_cases c : n < 0
  · obtain ⟨m, rfl⟩ : ∃ m : Int, n = -m := ⟨-n, by omega⟩
    have e : ((-m).natAbs : Int) = m := by omega
    have E := Lib.hid e
    clear e
    go_enter Try.func89, Try.ntmps89
    go_wp2
    go_ret
    exact ⟨ret_i E.out.symm, rfl⟩
  · have e : (n.natAbs : Int) = n := by omega
    have E := Lib.hid e
    clear e
    go_enter Try.func89, Try.ntmps89
    go_wp2
    go_ret
    exact ⟨ret_i E.out.symm, rfl⟩

def mulV (a b : Int) : Int := if [a, b].all isMoney then capV (a * b) else 0
def mulE (a b : Int) : Int := if [a, b].all isMoney then capE (a * b) else 3
theorem mulV_in {a b : Int} (h : [a, b].all isMoney = true) : mulV a b = capV (a * b) := by simp only [mulV, h, if_true]
theorem mulE_in {a b : Int} (h : [a, b].all isMoney = true) : mulE a b = capE (a * b) := by simp only [mulE, h, if_true]
theorem mulV_out {a b : Int} (h : [a, b].all isMoney = false) : mulV a b = 0 := by unfold mulV; rw [h]; rfl
theorem mulE_out {a b : Int} (h : [a, b].all isMoney = false) : mulE a b = 3 := by unfold mulE; rw [h]; rfl

theorem times_wrong (a b : Int) (w : World) (h : [a, b].all isMoney = false) :
    Calls Try.prog 71 #[.int .i64 a, .int .i64 b] w fun e w' => e = .returned (.tuple #[.int .i64 (mulV a b), .int .i64 (mulE a b)]) ∧ Grew w w' := by
  have C := (right_any (some ⟨w.heap.size, 0, none⟩) 2 2 [a, b] _ (ints2 w a b 3) (by omega))
  rw [h] at C
  have H := Lib.hid h
  clear h
  go_enter Try.func71, Try.ntmps71
  go_wp2_with (go_at_call 30; ((with_reducible refine C.mono ?_); rintro e w' ⟨rfl, rfl⟩))
  go_ret2
  exact ⟨ret2 (mulV_out H.out).symm (mulE_out H.out).symm, grew_alloc _ _ _⟩

set_option maxHeartbeats 1000000 in
theorem times_right (a b : Int) (w : World) (h : [a, b].all isMoney = true) :
    Calls Try.prog 71 #[.int .i64 a, .int .i64 b] w fun e w' => e = .returned (.tuple #[.int .i64 (mulV a b), .int .i64 (mulE a b)]) ∧ Grew w w' := by
  have C := (right_any (some ⟨w.heap.size, 0, none⟩) 2 2 [a, b] _ (ints2 w a b 3) (by omega))
  rw [h] at C
  have E1 := Lib.hid (mulV_in h)
  have E2 := Lib.hid (mulE_in h)
  have ha : isMoney a = true := by simp only [List.all_cons, Bool.and_eq_true] at h; exact h.1
  have hb : isMoney b = true := by simp only [List.all_cons, Bool.and_eq_true] at h; exact h.2.1
  have A := Lib.hid ha
  have B := Lib.hid hb
  rw [isMoney_iff] at ha hb
  have hp : ((a * b).natAbs) = a.natAbs * b.natAbs := Int.natAbs_mul a b
  have hs : (a < 0 ↔ b < 0) → 0 ≤ a * b := fun h => by
    by_cases c : a < 0
    · exact Int.mul_nonneg_of_nonpos_of_nonpos (by omega) (by omega)
    · exact Int.mul_nonneg (by omega) (by omega)
  have hn : (a < 0 ↔ ¬ b < 0) → a * b ≤ 0 := fun h => by
    by_cases c : a < 0
    · exact Int.mul_nonpos_of_nonpos_of_nonneg (by omega) (by omega)
    · exact Int.mul_nonpos_of_nonneg_of_nonpos (by omega) (by omega)
  have HS := Lib.hid hs
  have HN := Lib.hid hn
  have HP := Lib.hid hp
  clear h hs hn hp
  have M := mul64_any a.natAbs b.natAbs (by omega) (by omega)
  generalize hP : a.natAbs * b.natAbs = P at *
  clear hP ha hb
  have HI : Hid (isMoney (a * b) = decide (P ≤ 4611686018427387904)) := by
    show isMoney (a * b) = _
    rw [Bool.eq_iff_iff, isMoney_iff, decide_eq_true_iff]
    have := HP.out
    omega
  by_cases c1 : (P / 18446744073709551616 : Nat) = 0
  · have e1 : ((P / 18446744073709551616 : Nat) : Int) = 0 := by omega
    have e2 : ((P % 18446744073709551616 : Nat) : Int) = (P : Int) := by omega
    have M := M (w.alloc (.cells #[.int .i64 a, .int .i64 b] 3))
    rw [e1, e2] at M
    clear e1 e2 c1
    by_cases c2 : P ≤ 4611686018427387904
    · have hI : isMoney (a * b) = true := by rw [HI.out]; simpa using c2
      have HM := Lib.hid hI
      clear hI
      have g : (P : Int) ≤ 4611686018427387904 := by omega
      by_cases s1 : a < 0 <;> by_cases s2 : b < 0
      · have d1 : decide (a < 0) = true := by simpa using s1
        have d2 : decide (b < 0) = true := by simpa using s2
        go_enter Try.func71, Try.ntmps71
        go_wp2_with (first | (go_at_call 30; ((with_reducible refine C.mono ?_); rintro e w' ⟨rfl, rfl⟩)) | (go_at_call 89; ((with_reducible refine (size_any _ _ A.out).mono ?_); rintro e w' ⟨rfl, rfl⟩)) | (go_at_call 89; ((with_reducible refine (size_any _ _ B.out).mono ?_); rintro e w' ⟨rfl, rfl⟩)) | (go_at_call 53; ((with_reducible refine M.mono ?_); rintro e w' ⟨rfl, rfl⟩)))
        go_ret2
        have hp := HP.out
        have hs := HS.out (by omega)
        exact ⟨ret2 (by rw [E1.out, capV_in HM.out]; omega) (by rw [E2.out, capE_in HM.out]), grew_alloc _ _ _⟩
      · have d1 : decide (a < 0) = true := by simpa using s1
        have d2 : decide (b < 0) = false := by simpa using s2
        go_enter Try.func71, Try.ntmps71
        go_wp2_with (first | (go_at_call 30; ((with_reducible refine C.mono ?_); rintro e w' ⟨rfl, rfl⟩)) | (go_at_call 89; ((with_reducible refine (size_any _ _ A.out).mono ?_); rintro e w' ⟨rfl, rfl⟩)) | (go_at_call 89; ((with_reducible refine (size_any _ _ B.out).mono ?_); rintro e w' ⟨rfl, rfl⟩)) | (go_at_call 53; ((with_reducible refine M.mono ?_); rintro e w' ⟨rfl, rfl⟩)))
        go_ret2
        have hp := HP.out
        have hs := HN.out (by omega)
        exact ⟨ret2 (by rw [E1.out, capV_in HM.out]; omega) (by rw [E2.out, capE_in HM.out]), grew_alloc _ _ _⟩
      · have d1 : decide (a < 0) = false := by simpa using s1
        have d2 : decide (b < 0) = true := by simpa using s2
        go_enter Try.func71, Try.ntmps71
        go_wp2_with (first | (go_at_call 30; ((with_reducible refine C.mono ?_); rintro e w' ⟨rfl, rfl⟩)) | (go_at_call 89; ((with_reducible refine (size_any _ _ A.out).mono ?_); rintro e w' ⟨rfl, rfl⟩)) | (go_at_call 89; ((with_reducible refine (size_any _ _ B.out).mono ?_); rintro e w' ⟨rfl, rfl⟩)) | (go_at_call 53; ((with_reducible refine M.mono ?_); rintro e w' ⟨rfl, rfl⟩)))
        go_ret2
        have hp := HP.out
        have hs := HN.out (by omega)
        exact ⟨ret2 (by rw [E1.out, capV_in HM.out]; omega) (by rw [E2.out, capE_in HM.out]), grew_alloc _ _ _⟩
      · have d1 : decide (a < 0) = false := by simpa using s1
        have d2 : decide (b < 0) = false := by simpa using s2
        go_enter Try.func71, Try.ntmps71
        go_wp2_with (first | (go_at_call 30; ((with_reducible refine C.mono ?_); rintro e w' ⟨rfl, rfl⟩)) | (go_at_call 89; ((with_reducible refine (size_any _ _ A.out).mono ?_); rintro e w' ⟨rfl, rfl⟩)) | (go_at_call 89; ((with_reducible refine (size_any _ _ B.out).mono ?_); rintro e w' ⟨rfl, rfl⟩)) | (go_at_call 53; ((with_reducible refine M.mono ?_); rintro e w' ⟨rfl, rfl⟩)))
        go_ret2
        have hp := HP.out
        have hs := HS.out (by omega)
        exact ⟨ret2 (by rw [E1.out, capV_in HM.out]; omega) (by rw [E2.out, capE_in HM.out]), grew_alloc _ _ _⟩
    · have hI : isMoney (a * b) = false := by rw [HI.out]; simpa using c2
      have HM := Lib.hid hI
      clear hI
      have g : (4611686018427387904 : Int) < (P : Int) := by omega
      go_enter Try.func71, Try.ntmps71
      go_wp2_with (first | (go_at_call 30; ((with_reducible refine C.mono ?_); rintro e w' ⟨rfl, rfl⟩)) | (go_at_call 89; ((with_reducible refine (size_any _ _ A.out).mono ?_); rintro e w' ⟨rfl, rfl⟩)) | (go_at_call 89; ((with_reducible refine (size_any _ _ B.out).mono ?_); rintro e w' ⟨rfl, rfl⟩)) | (go_at_call 53; ((with_reducible refine M.mono ?_); rintro e w' ⟨rfl, rfl⟩)))
      go_ret2
      exact ⟨ret2 (by rw [E1.out, capV_out HM.out]) (by rw [E2.out, capE_out HM.out]), grew_alloc _ _ _⟩
  · have hI : isMoney (a * b) = false := by rw [HI.out]; simp; omega
    have HM := Lib.hid hI
    clear hI
    have M := M (w.alloc (.cells #[.int .i64 a, .int .i64 b] 3))
    have g : (((P / 18446744073709551616 : Nat) : Int) != 0) = true := by
      have : ((P / 18446744073709551616 : Nat) : Int) ≠ 0 := by omega
      simpa using this
    generalize ((P / 18446744073709551616 : Nat) : Int) = Hi at *
    generalize ((P % 18446744073709551616 : Nat) : Int) = Lo at *
    go_enter Try.func71, Try.ntmps71
    go_wp2_with (first | (go_at_call 30; ((with_reducible refine C.mono ?_); rintro e w' ⟨rfl, rfl⟩)) | (go_at_call 89; ((with_reducible refine (size_any _ _ A.out).mono ?_); rintro e w' ⟨rfl, rfl⟩)) | (go_at_call 89; ((with_reducible refine (size_any _ _ B.out).mono ?_); rintro e w' ⟨rfl, rfl⟩)) | (go_at_call 53; ((with_reducible refine M.mono ?_); rintro e w' ⟨rfl, rfl⟩)))
    go_ret2
    exact ⟨ret2 (by rw [E1.out, capV_out HM.out]) (by rw [E2.out, capE_out HM.out]), grew_alloc _ _ _⟩

theorem times_any (a b : Int) (w : World) :
    Calls Try.prog 71 #[.int .i64 a, .int .i64 b] w fun e w' => e = .returned (.tuple #[.int .i64 (mulV a b), .int .i64 (mulE a b)]) ∧ Grew w w' := by
  by_cases h : [a, b].all isMoney = true
  · exact times_right a b w h
  · exact times_wrong a b w (by simpa using h)

end Go.Proofs.Ytlbfljkhlkjcbaa.NumK
