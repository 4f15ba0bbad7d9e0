/- Rolls: rising lists; who is found, what is put. -/
import Derived.Test.YtodnllopokoicaaGreatRH1
import Derived.Laws.Bits64b
import Derived.OpenShut
import Derived.ChangeArms
import Derived.Deep.Slices
import Derived.Laws.AppendOwnNone
namespace Go.Proofs.YtodnllopokoicaaGreat.NumK

/-- The number, the state, the need. -/
abbrev Mb := Int × Int × Int
/-- The number, the currency, the price, the cut. -/
abbrev As := Int × Int × Int × Int
/-- The number, the currency, the multiplier, the add-on, the price that was told, the last one; the shifts. -/
abbrev In := (Int × Int × Int × Int × Int × Int) × (Int × Int × Int × Int × Int × Int)
abbrev Rl := List Mb × List In × List As
abbrev mb0 : Mb := (0, 0, 0)
abbrev as0 : As := (0, 0, 0, 0)
abbrev in0 : In := ((0, 0, 0, 0, 0, 0), (0, 0, 0, 0, 0, 0))

def noMb (x : Mb) : Int := x.1
def noIn (x : In) : Int := x.1.1
def noAs (x : As) : Int := x.1

def wi (n lo hi : Int) : Bool := decide (lo ≤ n) && decide (n ≤ hi)
theorem wi_iff (n lo hi : Int) : wi n lo hi = true ↔ lo ≤ n ∧ n ≤ hi := by simp [wi]
def okMb (x : Mb) : Bool := wi x.1 1 16 && wi x.2.1 1 3 && wi x.2.2 0 4611686018427387904
def okAs (x : As) : Bool := wi x.1 1 6 && wi x.2.1 0 2 && wi x.2.2.1 1 1073741824 && wi x.2.2.2 0 10000
def okSh (n : Int) : Bool := wi n (-1073741824) 1073741824
def shIn (x : In) : List Int := [x.2.1, x.2.2.1, x.2.2.2.1, x.2.2.2.2.1, x.2.2.2.2.2.1, x.2.2.2.2.2.2]
def okIn6 (x : In) : Bool := wi x.1.1 1 8 && wi x.1.2.1 0 2 && wi x.1.2.2.1 1 1024 && wi x.1.2.2.2.1 0 1073741824 && wi x.1.2.2.2.2.1 0 1073741824 && wi x.1.2.2.2.2.2 0 1073741824
def okIn (x : In) : Bool := (shIn x).all okSh && okIn6 x

section
variable {α : Type}

/-! ### lists that rise -/
def Rise (no : α → Int) (l : List α) : Prop := l.Pairwise fun x y => no x < no y

def stepOK (ok : α → Bool) (no : α → Int) (d : α) (l : List α) (j : Nat) : Bool := ok (l.getD j d) && (decide (j = 0) || decide (no (l.getD (j - 1) d) < no (l.getD j d)))
def rightL (ok : α → Bool) (no : α → Int) (d : α) (l : List α) : Bool := (List.range l.length).all (stepOK ok no d l)

theorem range_all_succ (p : Nat → Bool) (j : Nat) : (List.range (j + 1)).all p = ((List.range j).all p && p j) := by
  rw [List.range_succ, List.all_append]; simp
theorem range_all_no (p : Nat → Bool) (j n : Nat) (h : j < n) (hp : p j = false) : false = (List.range n).all p := by
  symm
  rw [List.all_eq_false]
  exact ⟨j, List.mem_range.2 h, by rw [hp]; decide⟩

theorem getD_mem (l : List α) (d : α) (j : Nat) (h : j < l.length) : l.getD j d ∈ l := by
  rw [show l.getD j d = l[j] by simp [List.getD, h]]; exact List.getElem_mem h
theorem getD_at (l : List α) (d : α) (j : Nat) (h : j < l.length) : l.getD j d = l[j] := by simp [List.getD, h]

theorem rise_of_steps (no : α → Int) (d : α) (l : List α) (h : ∀ j, 0 < j → j < l.length → no (l.getD (j - 1) d) < no (l.getD j d)) : Rise no l := by
  unfold Rise
  rw [List.pairwise_iff_getElem]
  intro i j hi hj hij
  induction j with
  | zero => omega
  | succ j ih =>
    have h1 := h (j + 1) (by omega) hj
    rw [getD_at _ _ _ hj, show j + 1 - 1 = j by omega, getD_at _ _ _ (by omega)] at h1
    by_cases hc : i = j
    · subst hc; exact h1
    · exact Int.lt_trans (ih (by omega) (by omega)) h1

theorem rightL_iff (ok : α → Bool) (no : α → Int) (d : α) (l : List α) : rightL ok no d l = true ↔ (∀ x ∈ l, ok x = true) ∧ Rise no l := by
  unfold rightL
  rw [List.all_eq_true]
  constructor
  · intro h
    refine ⟨fun x hx => ?_, rise_of_steps no d l fun j h0 hj => ?_⟩
    · obtain ⟨j, hj, rfl⟩ := List.getElem_of_mem hx
      have h1 := h j (List.mem_range.2 hj)
      unfold stepOK at h1
      rw [getD_at _ _ _ hj] at h1
      simp only [Bool.and_eq_true] at h1
      exact h1.1
    · have h1 := h j (List.mem_range.2 hj)
      unfold stepOK at h1
      simp only [Bool.and_eq_true, Bool.or_eq_true, decide_eq_true_eq] at h1
      rcases h1.2 with h2 | h2
      · omega
      · exact h2
  · rintro ⟨h1, h2⟩ j hj
    have hj := List.mem_range.1 hj
    unfold stepOK
    simp only [Bool.and_eq_true, Bool.or_eq_true, decide_eq_true_eq]
    refine ⟨h1 _ (getD_mem l d j hj), ?_⟩
    by_cases h0 : j = 0
    · exact Or.inl h0
    · right
      rw [getD_at _ _ _ hj, getD_at _ _ _ (by omega)]
      exact List.pairwise_iff_getElem.1 h2 (j - 1) j (by omega) hj (by omega)

/-- Two lists that rise, and have the same in them, are one. -/
theorem rise_ext (no : α → Int) : ∀ (l m : List α), Rise no l → Rise no m → (∀ y, y ∈ l ↔ y ∈ m) → l = m
  | [], [], _, _, _ => rfl
  | [], y :: m, _, _, h => by have := (h y).2 (by simp); simp at this
  | x :: l, [], _, _, h => by have := (h x).1 (by simp); simp at this
  | x :: l, y :: m, hl, hm, h => by
    have h1 := List.pairwise_cons.1 hl
    have h2 := List.pairwise_cons.1 hm
    have hxy : x = y := by
      have a1 : x ∈ y :: m := (h x).1 (by simp)
      have a2 : y ∈ x :: l := (h y).2 (by simp)
      rcases List.mem_cons.1 a1 with e | a1
      · exact e
      · rcases List.mem_cons.1 a2 with e | a2
        · exact e.symm
        · have := h2.1 x a1
          have := h1.1 y a2
          omega
    subst hxy
    congr 1
    refine rise_ext no l m h1.2 h2.2 fun z => ⟨fun hz => ?_, fun hz => ?_⟩
    · rcases List.mem_cons.1 ((h z).1 (List.mem_cons_of_mem _ hz)) with e | e
      · have := h1.1 z hz; rw [e] at this; omega
      · exact e
    · rcases List.mem_cons.1 ((h z).2 (List.mem_cons_of_mem _ hz)) with e | e
      · have := h2.1 z hz; rw [e] at this; omega
      · exact e

theorem rise_one {no : α → Int} {l : List α} (h : Rise no l) {x y : α} (hx : x ∈ l) (hy : y ∈ l) (he : no x = no y) : x = y := by
  obtain ⟨i, hi, rfl⟩ := List.getElem_of_mem hx
  obtain ⟨j, hj, rfl⟩ := List.getElem_of_mem hy
  have hp := List.pairwise_iff_getElem.1 h
  rcases Nat.lt_trichotomy i j with h1 | h1 | h1
  · have := hp i j hi hj h1; omega
  · subst h1; rfl
  · have := hp j i hj hi h1; omega

/-! ### who is found -/
def hasL (no : α → Int) (l : List α) (n : Int) : Bool := l.any fun x => decide (no x = n)
def findL (no : α → Int) (d : α) (l : List α) (n : Int) : α := (l.find? fun x => decide (no x = n)).getD d

theorem hasL_iff (no : α → Int) (l : List α) (n : Int) : hasL no l n = true ↔ ∃ x ∈ l, no x = n := by
  unfold hasL; rw [List.any_eq_true]; simp
theorem find_yes (no : α → Int) (d : α) (l : List α) (n : Int) (j : Nat) (hj : j < l.length) (h0 : ∀ i, i < j → no (l.getD i d) ≠ n) (h1 : no (l.getD j d) = n) : hasL no l n = true ∧ findL no d l n = l.getD j d := by
  refine ⟨(hasL_iff no l n).2 ⟨_, getD_mem l d j hj, h1⟩, ?_⟩
  unfold findL
  have e : l.find? (fun x => decide (no x = n)) = some l[j] := by
    rw [List.find?_eq_some_iff_getElem]
    refine ⟨by rw [← getD_at l d j hj]; simpa using h1, j, hj, rfl, fun i hi => ?_⟩
    have := h0 i hi
    rw [getD_at l d i (by omega)] at this
    simpa using this
  rw [e, getD_at l d j hj]; rfl
theorem find_no (no : α → Int) (d : α) (l : List α) (n : Int) (h0 : ∀ i, i < l.length → no (l.getD i d) ≠ n) : hasL no l n = false ∧ findL no d l n = d := by
  have h1 : ∀ x ∈ l, no x ≠ n := fun x hx => by
    obtain ⟨i, hi, rfl⟩ := List.getElem_of_mem hx
    have := h0 i hi
    rwa [getD_at l d i hi] at this
  refine ⟨?_, ?_⟩
  · unfold hasL; rw [List.any_eq_false]; intro x hx; simpa using h1 x hx
  · unfold findL
    have e : l.find? (fun x => decide (no x = n)) = none := by rw [List.find?_eq_none]; intro x hx; simpa using h1 x hx
    rw [e]; rfl
theorem find_mem (no : α → Int) (d : α) (l : List α) (n : Int) (h : hasL no l n = true) : findL no d l n ∈ l ∧ no (findL no d l n) = n := by
  obtain ⟨x, hx, hn⟩ := (hasL_iff no l n).1 h
  unfold findL
  cases e : l.find? (fun x => decide (no x = n)) with
  | none => rw [List.find?_eq_none] at e; have := e x hx; simp [hn] at this
  | some y =>
    have h1 := List.find?_some e
    have h2 := List.mem_of_find?_eq_some e
    exact ⟨h2, by simpa using h1⟩
/-! ### what is put -/
def putL (no : α → Int) (l : List α) (x : α) : List α := l.filter (fun y => decide (no y < no x)) ++ x :: l.filter (fun y => decide (no x < no y))

/-! ### how long a list may be -/
/-! ### as the document collects them -/
def collL (no : α → Int) (d : α) (l : List α) (x : α) (k : Nat) : List α :=
  (List.range k).flatMap fun i : Nat => if (i : Int) + 1 = no x then [x] else if hasL no l ((i : Int) + 1) = true then [findL no d l ((i : Int) + 1)] else []
end
end Go.Proofs.YtodnllopokoicaaGreat.NumK
namespace Go.Proofs.YtodnllopokoicaaGreat.NumK
set_option linter.unusedVariables false
section
variable {α : Type}

def setL (no : α → Int) (l : List α) (k : Int) (o : Option α) : List α := l.filter (fun y => decide (no y < k)) ++ (o.toList ++ l.filter (fun y => decide (k < no y)))
/-- What is put stands there. -/
def getL (no : α → Int) (l : List α) (k : Int) : Option α := l.find? fun x => decide (no x = k)
/-! ### out of keys that rise -/
end
end Go.Proofs.YtodnllopokoicaaGreat.NumK
namespace Go.Proofs.YtodnllopokoicaaGreat.NumK
set_option linter.unusedVariables false

/-- Who, the asset, the units. -/
abbrev Pg := Int × Int × Int
abbrev pg0 : Pg := (0, 0, 0)
def noPg (x : Pg) : Int := x.1 * 8 + x.2.1
def okPK (w a : Int) : Bool := wi w 1 16 && wi a 1 6
def okPg (x : Pg) : Bool := okPK x.1 x.2.1 && wi x.2.2 1 1099511627776
def rightPg (l : List Pg) : Bool := rightL okPg noPg pg0 l
theorem rightPg_iff (l : List Pg) : rightPg l = true ↔ (∀ x ∈ l, okPg x = true) ∧ Rise noPg l := rightL_iff _ _ _ _
theorem okPK_iff (w a : Int) : okPK w a = true ↔ (1 ≤ w ∧ w ≤ 16) ∧ 1 ≤ a ∧ a ≤ 6 := by unfold okPK; rw [Bool.and_eq_true, wi_iff, wi_iff]
theorem okPg_iff (x : Pg) : okPg x = true ↔ okPK x.1 x.2.1 = true ∧ 1 ≤ x.2.2 ∧ x.2.2 ≤ 1099511627776 := by unfold okPg; rw [Bool.and_eq_true, wi_iff]
def isPg (w a : Int) (x : Pg) : Bool := decide (x.1 = w) && decide (x.2.1 = a)
def findPg (l : List Pg) (w a : Int) : Option Pg := l.find? (isPg w a)
def unP (o : Option Pg) : Int := match o with | some x => x.2.2 | none => 0
def unitsL (l : List Pg) (w a : Int) : Int := unP (findPg l w a)
def changeO (w a n : Int) : Option Pg := if n ≤ 0 then none else some (w, a, n)
def changeE (l : List Pg) (w a u : Int) : Int :=
  if rightPg l then (if okPK w a && wi u (-1099511627776) 1099511627776 then (if unitsL l w a + u < 0 then 13 else (if 1099511627776 < unitsL l w a + u then 1 else 0)) else 3) else 14
def changeL (l : List Pg) (w a u : Int) : List Pg := if changeE l w a u = 0 then setL noPg l (w * 8 + a) (changeO w a (unitsL l w a + u)) else []
/-! ### the worth of collateral -/
def valueV (x : As) (u : Int) : Int := (u * (x.2.2.1 * (10000 - x.2.2.2))).fdiv 10000
def valueE (x : As) (u : Int) : Int := if okAs x && wi u 0 1099511627776 then (if valueV x u ≤ 4611686018427387904 then 0 else 1) else 3
def valueN (x : As) (u : Int) : Int := if valueE x u = 0 then valueV x u else 0
theorem okAs_iff (x : As) : okAs x = true ↔ (1 ≤ x.1 ∧ x.1 ≤ 6) ∧ (0 ≤ x.2.1 ∧ x.2.1 ≤ 2) ∧ (1 ≤ x.2.2.1 ∧ x.2.2.1 ≤ 1073741824) ∧ 0 ≤ x.2.2.2 ∧ x.2.2.2 ≤ 10000 := by
  unfold okAs; rw [Bool.and_eq_true, Bool.and_eq_true, Bool.and_eq_true, wi_iff, wi_iff, wi_iff, wi_iff, and_assoc, and_assoc]
theorem fdiv_facts (a : Int) : a.fdiv 10000 * 10000 ≤ a ∧ a < a.fdiv 10000 * 10000 + 10000 := by
  rw [Int.fdiv_eq_ediv_of_nonneg _ (by decide)]; omega
/-- The net worth of one unit, 10000 times. -/
def unitW (x : As) : Int := x.2.2.1 * (10000 - x.2.2.2)
theorem unitW_in {x : As} (h : okAs x = true) : 0 ≤ unitW x ∧ unitW x ≤ x.2.2.1 * 10000 := by
  obtain ⟨_, _, h3, h4⟩ := (okAs_iff x).1 h
  unfold unitW
  exact ⟨Int.mul_nonneg (by omega) (by omega), Int.mul_le_mul_of_nonneg_left (by omega) (by omega)⟩
theorem value_nonneg {x : As} (h : okAs x = true) {u : Int} (hu : 0 ≤ u) : 0 ≤ valueV x u := by
  have h1 : 0 ≤ u * unitW x := Int.mul_nonneg hu (unitW_in h).1
  have := fdiv_facts (u * unitW x)
  show 0 ≤ (u * unitW x).fdiv 10000
  omega
theorem value_le {x : As} (h : okAs x = true) {u : Int} (hu : 0 ≤ u) : valueV x u ≤ u * x.2.2.1 := by
  have h1 : u * unitW x ≤ u * (x.2.2.1 * 10000) := Int.mul_le_mul_of_nonneg_left (unitW_in h).2 hu
  rw [← Int.mul_assoc] at h1
  have := fdiv_facts (u * unitW x)
  show (u * unitW x).fdiv 10000 ≤ _
  omega
end Go.Proofs.YtodnllopokoicaaGreat.NumK
namespace Go.Proofs.YtodnllopokoicaaGreat.NumK
open Go.RowKit
set_option linter.unusedVariables false

/-- Who, the instrument, the quantity, the cost. -/
abbrev Po := Int × Int × Int × Int
abbrev Ky := Int × Int
abbrev po0 : Po := (0, 0, 0, 0)
/-- The number, the buyer, the seller, the instrument, the quantity, the price; off? -/
abbrev Tr := (Int × Int × Int × Int × Int × Int) × Bool
abbrev tr0 : Tr := ((0, 0, 0, 0, 0, 0), false)
def noTr (t : Tr) : Int := t.1.1

def sizedB (q p : Int) : Bool := wi q 1 1048576 && wi p 1 1073741824
def sizedT (t : Tr) : Bool := sizedB t.1.2.2.2.2.1 t.1.2.2.2.2.2
theorem sizedT_iff (t : Tr) : sizedT t = true ↔ (1 ≤ t.1.2.2.2.2.1 ∧ t.1.2.2.2.2.1 ≤ 1048576) ∧ 1 ≤ t.1.2.2.2.2.2 ∧ t.1.2.2.2.2.2 ≤ 1073741824 := by
  unfold sizedT sizedB; rw [Bool.and_eq_true, wi_iff, wi_iff]
/-- Both legs, n pieces. -/
def twoL (t : Tr) (n : Int) : List Po := [(t.1.2.1, t.1.2.2.2.1, n, n * t.1.2.2.2.2.2), (t.1.2.2.1, t.1.2.2.2.1, -n, -n * t.1.2.2.2.2.2)]
def legsT (t : Tr) (back : Bool) : List Po := if sizedT t then twoL t (if back then -t.1.2.2.2.2.1 else t.1.2.2.2.2.1) else []

/-! ### the sums of legs -/
def qty (l : List Po) : Int := (l.map (·.2.2.1)).sum
def cst (l : List Po) : Int := (l.map (·.2.2.2)).sum
def okAm (x : Po) : Bool := isMoney x.2.2.1 && isMoney x.2.2.2
def sumPE (l : List Po) : Int := if l.all okAm then (if isMoney (qty l) && isMoney (cst l) then 0 else 1) else 3
def sumPQ (l : List Po) : Int := if sumPE l = 0 then qty l else 0
def sumPC (l : List Po) : Int := if sumPE l = 0 then cst l else 0

theorem sum_app (l m : List Int) : (l ++ m).sum = l.sum + m.sum := by
  induction l with
  | nil => simp
  | cons x l ih => rw [List.cons_append, List.sum_cons, List.sum_cons, ih, Int.add_assoc]
theorem qty_app (l m : List Po) : qty (l ++ m) = qty l + qty m := by unfold qty; rw [List.map_append, sum_app]
theorem cst_app (l m : List Po) : cst (l ++ m) = cst l + cst m := by unfold cst; rw [List.map_append, sum_app]
theorem qty_nil : qty [] = 0 := rfl
theorem cst_nil : cst [] = 0 := rfl
theorem qty_cons (x : Po) (l : List Po) : qty (x :: l) = x.2.2.1 + qty l := by unfold qty; rw [List.map_cons, List.sum_cons]
theorem cst_cons (x : Po) (l : List Po) : cst (x :: l) = x.2.2.2 + cst l := by unfold cst; rw [List.map_cons, List.sum_cons]
theorem mul_in (q p : Int) (h : (1 ≤ q ∧ q ≤ 1048576) ∧ 1 ≤ p ∧ p ≤ 1073741824) : 0 ≤ q * p ∧ q * p ≤ 1125899906842624 := by
  refine ⟨Int.mul_nonneg (by omega) (by omega), ?_⟩
  calc q * p ≤ 1048576 * p := Int.mul_le_mul_of_nonneg_right (by omega) (by omega)
    _ ≤ 1048576 * 1073741824 := Int.mul_le_mul_of_nonneg_left (by omega) (by omega)

/-! ### keys -/
def keyP (x : Po) : Ky := (x.1, x.2.1)
def noK (k : Ky) : Int := k.1 * 8 + k.2
def noPo (x : Po) : Int := x.1 * 8 + x.2.1
def okK (k : Ky) : Bool := wi k.1 1 16 && wi k.2 1 8
theorem okK_iff (k : Ky) : okK k = true ↔ (1 ≤ k.1 ∧ k.1 ≤ 16) ∧ 1 ≤ k.2 ∧ k.2 ≤ 8 := by unfold okK; rw [Bool.and_eq_true, wi_iff, wi_iff]
/-- The order of keys. -/
def kltB (a b : Ky) : Bool := decide (a.1 < b.1) || (decide (a.1 = b.1) && decide (a.2 < b.2))
theorem klt_no {a b : Ky} (ha : okK a = true) (hb : okK b = true) : kltB a b = decide (noK a < noK b) := by
  obtain ⟨a1, a2⟩ := a
  obtain ⟨b1, b2⟩ := b
  rw [okK_iff] at ha hb
  unfold noK kltB
  simp only at ha hb ⊢
  rw [Bool.eq_iff_iff]
  simp only [Bool.or_eq_true, Bool.and_eq_true, decide_eq_true_eq]
  omega

/-- The keys, in their order. -/
def gridK : List Ky := (List.range 128).map fun i : Nat => (((i / 8 : Nat) : Int) + 1, ((i % 8 : Nat) : Int) + 1)
theorem mem_grid (k : Ky) : k ∈ gridK ↔ okK k = true := by
  rw [okK_iff]
  unfold gridK
  rw [List.mem_map]
  constructor
  · rintro ⟨i, hi, rfl⟩
    have := List.mem_range.1 hi
    simp only
    omega
  · rintro ⟨h1, h2⟩
    obtain ⟨a, b⟩ := k
    simp only at h1 h2
    refine ⟨((a - 1) * 8 + (b - 1)).toNat, List.mem_range.2 (by omega), ?_⟩
    simp only [Prod.mk.injEq]
    omega
theorem grid_rise : gridK.Pairwise fun a b => noK a < noK b := by
  unfold gridK
  rw [List.pairwise_map]
  refine List.Pairwise.imp (R := fun i j : Nat => i < j) (fun {i j} h => ?_) List.pairwise_lt_range
  unfold noK
  simp only
  omega

/-! ### what lists have of a key, of an instrument -/
def isK (k : Ky) (x : Po) : Bool := decide (x.1 = k.1) && decide (x.2.1 = k.2)
theorem isK_iff (k : Ky) (x : Po) : isK k x = true ↔ keyP x = k := by
  obtain ⟨a, b⟩ := k
  unfold isK keyP
  simp
def qK (l : List Po) (k : Ky) : Int := qty (l.filter (isK k))
def cK (l : List Po) (k : Ky) : Int := cst (l.filter (isK k))
def isI (n : Int) (x : Po) : Bool := decide (x.2.1 = n)
def qI (l : List Po) (n : Int) : Int := qty (l.filter (isI n))
def cI (l : List Po) (n : Int) : Int := cst (l.filter (isI n))

theorem qK_app (l m : List Po) (k : Ky) : qK (l ++ m) k = qK l k + qK m k := by unfold qK; rw [List.filter_append, qty_app]
theorem cK_app (l m : List Po) (k : Ky) : cK (l ++ m) k = cK l k + cK m k := by unfold cK; rw [List.filter_append, cst_app]
theorem qK_cons (x : Po) (l : List Po) (k : Ky) : qK (x :: l) k = (if isK k x then x.2.2.1 else 0) + qK l k := by
  unfold qK; rw [List.filter_cons]; split
  · rw [qty_cons]
  · simp
theorem cK_cons (x : Po) (l : List Po) (k : Ky) : cK (x :: l) k = (if isK k x then x.2.2.2 else 0) + cK l k := by
  unfold cK; rw [List.filter_cons]; split
  · rw [cst_cons]
  · simp
theorem qI_cons (x : Po) (l : List Po) (n : Int) : qI (x :: l) n = (if isI n x then x.2.2.1 else 0) + qI l n := by
  unfold qI; rw [List.filter_cons]; split
  · rw [qty_cons]
  · simp
theorem cI_cons (x : Po) (l : List Po) (n : Int) : cI (x :: l) n = (if isI n x then x.2.2.2 else 0) + cI l n := by
  unfold cI; rw [List.filter_cons]; split
  · rw [cst_cons]
  · simp
theorem qK_nil (k : Ky) : qK [] k = 0 := rfl
theorem cK_nil (k : Ky) : cK [] k = 0 := rfl
theorem qI_nil (n : Int) : qI [] n = 0 := rfl
theorem cI_nil (n : Int) : cI [] n = 0 := rfl

/-- An instrument's sum by members. -/
def byW (f : Ky → Int) (n : Int) : Int := ((List.range 16).map fun i : Nat => f ((i : Int) + 1, n)).sum
theorem byW_congr {f g : Ky → Int} {n : Int} (h : ∀ w : Int, 1 ≤ w → w ≤ 16 → f (w, n) = g (w, n)) : byW f n = byW g n := by
  unfold byW
  congr 1
  refine List.map_congr_left fun i hi => ?_
  have := List.mem_range.1 hi
  exact h _ (by omega) (by omega)
theorem sum_map_add (f g : Nat → Int) : ∀ l : List Nat, (l.map fun i => f i + g i).sum = (l.map f).sum + (l.map g).sum
  | [] => rfl
  | x :: l => by simp only [List.map_cons, List.sum_cons]; rw [sum_map_add f g l]; omega
theorem byW_add (f g : Ky → Int) (n : Int) : byW (fun k => f k + g k) n = byW f n + byW g n := sum_map_add _ _ _
theorem sum_one (a : Int) (v : Int) : ∀ m : Nat, ((List.range m).map fun i : Nat => if a = (i : Int) + 1 then v else 0).sum = if 1 ≤ a ∧ a ≤ m then v else 0
  | 0 => by rw [if_neg (by omega)]; rfl
  | m + 1 => by
    rw [List.range_succ, List.map_append, sum_app, sum_one a v m]
    simp only [List.map_cons, List.map_nil, List.sum_cons, List.sum_nil]
    by_cases h : a = (m : Int) + 1
    · rw [if_pos h, if_neg (by omega), if_pos (by omega)]; omega
    · rw [if_neg h]
      by_cases h2 : 1 ≤ a ∧ a ≤ (m : Int)
      · rw [if_pos h2, if_pos (by omega)]; omega
      · rw [if_neg h2, if_neg (by omega)]; rfl
theorem sum_zeros : ∀ l : List Nat, (l.map fun _ => (0 : Int)).sum = 0
  | [] => rfl
  | x :: l => by rw [List.map_cons, List.sum_cons, sum_zeros l]; rfl
theorem qI_byW (l : List Po) (n : Int) (h : ∀ x ∈ l, 1 ≤ x.1 ∧ x.1 ≤ 16) : qI l n = byW (qK l) n := by
  induction l with
  | nil => unfold byW; simp only [qK_nil, qI_nil]; rw [sum_zeros]
  | cons x l ih =>
    rw [qI_cons, ih fun y hy => h y (List.mem_cons_of_mem _ hy), byW_congr (f := qK (x :: l)) (g := fun k => (if isK k x then x.2.2.1 else 0) + qK l k) fun w _ _ => qK_cons x l _, byW_add]
    congr 1
    have hx := h x (by simp)
    unfold byW isI isK
    by_cases hn : x.2.1 = n
    · simp only [hn, decide_true, Bool.and_true, decide_eq_true_eq, if_true]
      rw [sum_one, if_pos (by omega)]
    · simp only [hn, decide_false, Bool.and_false, Bool.false_eq_true, if_false]
      rw [sum_zeros]
theorem cI_byW (l : List Po) (n : Int) (h : ∀ x ∈ l, 1 ≤ x.1 ∧ x.1 ≤ 16) : cI l n = byW (cK l) n := by
  induction l with
  | nil => unfold byW; simp only [cK_nil, cI_nil]; rw [sum_zeros]
  | cons x l ih =>
    rw [cI_cons, ih fun y hy => h y (List.mem_cons_of_mem _ hy), byW_congr (f := cK (x :: l)) (g := fun k => (if isK k x then x.2.2.2 else 0) + cK l k) fun w _ _ => cK_cons x l _, byW_add]
    congr 1
    have hx := h x (by simp)
    unfold byW isI isK
    by_cases hn : x.2.1 = n
    · simp only [hn, decide_true, Bool.and_true, decide_eq_true_eq, if_true]
      rw [sum_one, if_pos (by omega)]
    · simp only [hn, decide_false, Bool.and_false, Bool.false_eq_true, if_false]
      rw [sum_zeros]

/-! ### positions out of a function of keys -/
def plOf (f : Ky → Int × Int) (k : Ky) : Option Po := if (f k).1 = 0 ∧ (f k).2 = 0 then none else some (k.1, k.2, (f k).1, (f k).2)
def plF (f : Ky → Int × Int) (m : Nat) : List Po := (gridK.take m).filterMap (plOf f)
def plA (f : Ky → Int × Int) : List Po := gridK.filterMap (plOf f)
theorem mem_pl (f : Ky → Int × Int) (y : Po) : y ∈ plA f ↔ okK (keyP y) = true ∧ f (keyP y) = (y.2.2.1, y.2.2.2) ∧ ¬ (y.2.2.1 = 0 ∧ y.2.2.2 = 0) := by
  unfold plA
  rw [List.mem_filterMap]
  constructor
  · rintro ⟨k, hk, e⟩
    unfold plOf at e
    split at e
    · cases e
    · next h =>
      cases e
      refine ⟨(mem_grid _).1 hk, rfl, h⟩
  · rintro ⟨h1, h2, h3⟩
    refine ⟨keyP y, (mem_grid _).2 h1, ?_⟩
    unfold plOf
    rw [h2, if_neg h3]
    rfl
theorem rise_pl (f : Ky → Int × Int) : Rise noPo (plA f) := by
  unfold Rise plA
  rw [List.pairwise_filterMap]
  refine List.Pairwise.imp (fun {a b} h x hx y hy => ?_) grid_rise
  unfold plOf at hx hy
  split at hx
  · cases hx
  · split at hy
    · cases hy
    · cases hx; cases hy; exact h
theorem pl_congr {f g : Ky → Int × Int} (h : ∀ k, okK k = true → f k = g k) : plA f = plA g :=
  rise_ext noPo _ _ (rise_pl f) (rise_pl g) fun y => by
    rw [mem_pl, mem_pl]
    constructor
    · rintro ⟨h1, h2, h3⟩; exact ⟨h1, by rw [← h _ h1]; exact h2, h3⟩
    · rintro ⟨h1, h2, h3⟩; exact ⟨h1, by rw [h _ h1]; exact h2, h3⟩

/-! ### positions that rise have one of each key -/
theorem filter_one {l : List Po} (h : Rise noPo l) (hk : ∀ x ∈ l, okK (keyP x) = true) {y : Po} (hy : y ∈ l) : l.filter (isK (keyP y)) = [y] := by
  refine rise_ext noPo _ _ (List.Pairwise.filter _ h) (by simp [Rise]) fun z => ?_
  rw [List.mem_filter, isK_iff, List.mem_singleton]
  constructor
  · rintro ⟨h1, h2⟩
    refine rise_one h h1 hy ?_
    show noK (keyP z) = noK (keyP y)
    rw [h2]
  · rintro rfl; exact ⟨hy, rfl⟩
theorem filter_none {l : List Po} {k : Ky} (h : ∀ x ∈ l, keyP x ≠ k) : l.filter (isK k) = [] := by
  rw [List.filter_eq_nil_iff]
  intro x hx he
  exact h x hx ((isK_iff k x).1 he)
def sumK2 (l : List Po) (k : Ky) : Int × Int := (qK l k, cK l k)
theorem sum_of_mem {l : List Po} (h : Rise noPo l) (hk : ∀ x ∈ l, okK (keyP x) = true) {y : Po} (hy : y ∈ l) : sumK2 l (keyP y) = (y.2.2.1, y.2.2.2) := by
  unfold sumK2 qK cK
  rw [filter_one h hk hy, qty_cons, qty_nil, cst_cons, cst_nil, Int.add_zero, Int.add_zero]
theorem sum_of_not {l : List Po} {k : Ky} (h : ∀ x ∈ l, keyP x ≠ k) : sumK2 l k = (0, 0) := by
  unfold sumK2 qK cK
  rw [filter_none h]; rfl
theorem sum_pl (f : Ky → Int × Int) (k : Ky) (hk : okK k = true) : sumK2 (plA f) k = f k := by
  by_cases hc : (f k).1 = 0 ∧ (f k).2 = 0
  · rw [sum_of_not]
    · rw [Prod.ext_iff]; exact ⟨hc.1.symm, hc.2.symm⟩
    · intro x hx he
      obtain ⟨h1, h2, h3⟩ := (mem_pl f x).1 hx
      rw [he] at h2
      rw [h2] at hc
      exact h3 hc
  · have hm : (k.1, k.2, (f k).1, (f k).2) ∈ plA f := (mem_pl f _).2 ⟨hk, rfl, hc⟩
    exact sum_of_mem (rise_pl f) (fun x hx => ((mem_pl f x).1 hx).1) hm

/-- The first position of a key. -/
def ofP (l : List Po) (k : Ky) : Po := (l.find? (isK k)).getD (k.1, k.2, 0, 0)
end Go.Proofs.YtodnllopokoicaaGreat.NumK
namespace Go.Proofs.YtodnllopokoicaaGreat.NumK
open Go.RowKit
set_option linter.unusedVariables false

/-- The last number, the trades, the positions. -/
abbrev Bk := Int × List Tr × List Po
abbrev bk0 : Bk := (0, [], [])

def okQ (q : Int) : Bool := wi q (-1099511627776) 1099511627776
theorem okQ_iff (q : Int) : okQ q = true ↔ -1099511627776 ≤ q ∧ q ≤ 1099511627776 := by unfold okQ; rw [wi_iff]
def okPo (x : Po) : Bool := okK (keyP x) && okQ x.2.2.1 && isMoney x.2.2.2 && !(decide (x.2.2.1 = 0) && decide (x.2.2.2 = 0))
theorem okPo_iff (x : Po) : okPo x = true ↔ okK (keyP x) = true ∧ okQ x.2.2.1 = true ∧ isMoney x.2.2.2 = true ∧ ¬ (x.2.2.1 = 0 ∧ x.2.2.2 = 0) := by
  unfold okPo
  simp only [Bool.and_eq_true, Bool.not_eq_true', Bool.and_eq_false_iff, decide_eq_false_iff_not]
  constructor
  · rintro ⟨⟨⟨h1, h2⟩, h3⟩, h4⟩; exact ⟨h1, h2, h3, by omega⟩
  · rintro ⟨h1, h2, h3, h4⟩; exact ⟨⟨⟨h1, h2⟩, h3⟩, by omega⟩
/-- Of each instrument they add up to 0. -/
def flatI (l : List Po) : Bool := (List.range 8).all fun i : Nat => decide (qI l ((i : Int) + 1) = 0)
theorem flatI_iff (l : List Po) : flatI l = true ↔ ∀ n : Int, 1 ≤ n → n ≤ 8 → qI l n = 0 := by
  unfold flatI
  rw [List.all_eq_true]
  constructor
  · intro h n h1 h2
    have := h (n - 1).toNat (List.mem_range.2 (by omega))
    rw [show (((n - 1).toNat : Nat) : Int) + 1 = n by omega] at this
    simpa using this
  · intro h i hi
    have := List.mem_range.1 hi
    simpa using h ((i : Int) + 1) (by omega) (by omega)
def numsT (t : Tr) : Bool := sizedT t && wi t.1.2.1 1 16 && wi t.1.2.2.1 1 16 && !(decide (t.1.2.1 = t.1.2.2.1)) && wi t.1.2.2.2.1 1 8
def okTr (next : Int) (t : Tr) : Bool := numsT t && wi t.1.1 1 next
def rightPs (l : List Po) : Bool := rightL okPo noPo po0 l && flatI l
def rightTs (next : Int) (l : List Tr) : Bool := rightL (okTr next) noTr tr0 l && decide (l.length ≤ 128)
def rightB (b : Bk) : Bool := wi b.1 0 1099511627776 && rightTs b.1 b.2.1 && rightPs b.2.2

theorem rightPs_iff (l : List Po) : rightPs l = true ↔ (∀ x ∈ l, okPo x = true) ∧ Rise noPo l ∧ ∀ n : Int, 1 ≤ n → n ≤ 8 → qI l n = 0 := by
  unfold rightPs
  rw [Bool.and_eq_true, rightL_iff, flatI_iff, and_assoc]
theorem rightB_iff (b : Bk) : rightB b = true ↔ (0 ≤ b.1 ∧ b.1 ≤ 1099511627776) ∧ (((∀ t ∈ b.2.1, okTr b.1 t = true) ∧ Rise noTr b.2.1) ∧ b.2.1.length ≤ 128) ∧ rightPs b.2.2 = true := by
  unfold rightB rightTs
  rw [Bool.and_eq_true, Bool.and_eq_true, Bool.and_eq_true, rightL_iff, wi_iff, decide_eq_true_eq, and_assoc]
theorem numsT_iff (t : Tr) : numsT t = true ↔ sizedT t = true ∧ (1 ≤ t.1.2.1 ∧ t.1.2.1 ≤ 16) ∧ (1 ≤ t.1.2.2.1 ∧ t.1.2.2.1 ≤ 16) ∧ t.1.2.1 ≠ t.1.2.2.1 ∧ 1 ≤ t.1.2.2.2.1 ∧ t.1.2.2.2.1 ≤ 8 := by
  unfold numsT
  simp only [Bool.and_eq_true, wi_iff, Bool.not_eq_true', decide_eq_false_iff_not, and_assoc, ne_eq]

/-! ### adding -/
def okLeg (x : Po) : Bool := okK (keyP x) && okAm x
def addF (l legs : List Po) (k : Ky) : Int × Int := (qK l k + qK legs k, cK l k + cK legs k)
def fits (f : Ky → Int × Int) : Bool := gridK.all fun k => okQ (f k).1 && isMoney (f k).2
theorem fits_iff (f : Ky → Int × Int) : fits f = true ↔ ∀ k, okK k = true → okQ (f k).1 = true ∧ isMoney (f k).2 = true := by
  unfold fits
  rw [List.all_eq_true]
  constructor
  · intro h k hk
    have := h k ((mem_grid k).2 hk)
    rwa [Bool.and_eq_true] at this
  · intro h k hk
    rw [Bool.and_eq_true]
    exact h k ((mem_grid k).1 hk)
def addE (b : Bk) (legs : List Po) : Int := if rightB b then (if legs.all okLeg then (if flatI legs then (if fits (addF b.2.2 legs) then 0 else 1) else 12) else 3) else 14
def addB (b : Bk) (legs : List Po) : Bk := if addE b legs = 0 then (b.1, b.2.1, plA (addF b.2.2 legs)) else bk0
theorem addE_ok {b : Bk} {legs : List Po} : addE b legs = 0 ↔ rightB b = true ∧ legs.all okLeg = true ∧ flatI legs = true ∧ fits (addF b.2.2 legs) = true := by
  unfold addE
  by_cases h1 : rightB b = true
  · rw [if_pos h1]
    by_cases h2 : legs.all okLeg = true
    · rw [if_pos h2]
      by_cases h3 : flatI legs = true
      · rw [if_pos h3]
        by_cases h4 : fits (addF b.2.2 legs) = true
        · rw [if_pos h4]; exact ⟨fun _ => ⟨h1, h2, h3, h4⟩, fun _ => rfl⟩
        · rw [if_neg h4]; exact ⟨fun h => absurd h (by decide), fun h => absurd h.2.2.2 h4⟩
      · rw [if_neg h3]; exact ⟨fun h => absurd h (by decide), fun h => absurd h.2.2.1 h3⟩
    · rw [if_neg h2]; exact ⟨fun h => absurd h (by decide), fun h => absurd h.2.1 h2⟩
  · rw [if_neg h1]; exact ⟨fun h => absurd h (by decide), fun h => absurd h.1 h1⟩
theorem right_keys {l : List Po} (h : rightPs l = true) : ∀ x ∈ l, okK (keyP x) = true := fun x hx => ((okPo_iff x).1 (((rightPs_iff l).1 h).1 x hx)).1
theorem who_in {x : Po} (h : okK (keyP x) = true) : 1 ≤ x.1 ∧ x.1 ≤ 16 := ((okK_iff _).1 h).1

theorem qI_pl (f : Ky → Int × Int) (n : Int) (h1 : 1 ≤ n) (h2 : n ≤ 8) : qI (plA f) n = byW (fun k => (f k).1) n := by
  rw [qI_byW _ _ fun x hx => who_in ((mem_pl f x).1 hx).1]
  refine byW_congr fun w w1 w2 => ?_
  have := sum_pl f (w, n) ((okK_iff _).2 ⟨⟨w1, w2⟩, h1, h2⟩)
  exact (Prod.ext_iff.1 this).1
theorem cI_pl (f : Ky → Int × Int) (n : Int) (h1 : 1 ≤ n) (h2 : n ≤ 8) : cI (plA f) n = byW (fun k => (f k).2) n := by
  rw [cI_byW _ _ fun x hx => who_in ((mem_pl f x).1 hx).1]
  refine byW_congr fun w w1 w2 => ?_
  have := sum_pl f (w, n) ((okK_iff _).2 ⟨⟨w1, w2⟩, h1, h2⟩)
  exact (Prod.ext_iff.1 this).2
theorem leg_keys {legs : List Po} (h : legs.all okLeg = true) : ∀ x ∈ legs, okK (keyP x) = true := fun x hx => by
  have := List.all_eq_true.1 h x hx
  unfold okLeg at this
  rw [Bool.and_eq_true] at this
  exact this.1
theorem qI_add {l legs : List Po} (hl : ∀ x ∈ l, okK (keyP x) = true) (hg : ∀ x ∈ legs, okK (keyP x) = true) (n : Int) (h1 : 1 ≤ n) (h2 : n ≤ 8) : qI (plA (addF l legs)) n = qI l n + qI legs n := by
  rw [qI_pl _ n h1 h2, qI_byW l n fun x hx => who_in (hl x hx), qI_byW legs n fun x hx => who_in (hg x hx), ← byW_add]
  rfl
theorem cI_add {l legs : List Po} (hl : ∀ x ∈ l, okK (keyP x) = true) (hg : ∀ x ∈ legs, okK (keyP x) = true) (n : Int) (h1 : 1 ≤ n) (h2 : n ≤ 8) : cI (plA (addF l legs)) n = cI l n + cI legs n := by
  rw [cI_pl _ n h1 h2, cI_byW l n fun x hx => who_in (hl x hx), cI_byW legs n fun x hx => who_in (hg x hx), ← byW_add]
  rfl
theorem right_addP {l legs : List Po} (hl : rightPs l = true) (hg : legs.all okLeg = true) (hf : flatI legs = true) (h : fits (addF l legs) = true) : rightPs (plA (addF l legs)) = true := by
  have h3 := ((rightPs_iff l).1 hl).2.2
  refine (rightPs_iff _).2 ⟨fun x hx => ?_, rise_pl _, fun n h1 h2 => ?_⟩
  · obtain ⟨h4, h5, h6⟩ := (mem_pl _ x).1 hx
    have h7 := (fits_iff _).1 h _ h4
    rw [h5] at h7
    exact (okPo_iff x).2 ⟨h4, h7.1, h7.2, h6⟩
  · rw [qI_add (right_keys hl) (leg_keys hg) n h1 h2, h3 n h1 h2, (flatI_iff legs).1 hf n h1 h2]; rfl
/-! ### the legs of a trade -/
theorem qI_two (t : Tr) (n m : Int) : qI (twoL t n) m = 0 := by
  show qI [_, _] m = 0
  rw [qI_cons, qI_cons, qI_nil]
  unfold isI
  simp only
  split <;> omega
theorem cI_two (t : Tr) (n m : Int) : cI (twoL t n) m = 0 := by
  show cI [_, _] m = 0
  rw [cI_cons, cI_cons, cI_nil]
  unfold isI
  simp only [Int.neg_mul]
  split <;> omega
theorem qI_legs (t : Tr) (back : Bool) (m : Int) : qI (legsT t back) m = 0 := by
  unfold legsT
  split
  · exact qI_two t _ m
  · rfl
theorem cI_legs (t : Tr) (back : Bool) (m : Int) : cI (legsT t back) m = 0 := by
  unfold legsT
  split
  · exact cI_two t _ m
  · rfl
theorem legs_flatI (t : Tr) (back : Bool) : flatI (legsT t back) = true := (flatI_iff _).2 fun n _ _ => qI_legs t back n
theorem nums_legs {t : Tr} (h : numsT t = true) (back : Bool) : legsT t back = twoL t (if back then -t.1.2.2.2.2.1 else t.1.2.2.2.2.1) := by
  unfold legsT; rw [if_pos ((numsT_iff t).1 h).1]
/-- Within so much. -/
def wm (n m : Int) : Prop := -m ≤ n ∧ n ≤ m
theorem two_small {t : Tr} (h : numsT t = true) {n : Int} (hn : n = t.1.2.2.2.2.1 ∨ n = -t.1.2.2.2.2.1) : wm n 1048576 ∧ wm (n * t.1.2.2.2.2.2) 1125899906842624 := by
  have h2 := (sizedT_iff t).1 ((numsT_iff t).1 h).1
  have h3 := mul_in _ _ h2
  unfold wm
  rcases hn with rfl | rfl
  · omega
  · rw [Int.neg_mul]; omega
theorem legs_ok {t : Tr} (h : numsT t = true) (back : Bool) : (legsT t back).all okLeg = true := by
  have hk := (numsT_iff t).1 h
  obtain ⟨s1, s2⟩ := two_small h (n := if back then -t.1.2.2.2.2.1 else t.1.2.2.2.2.1) (by cases back <;> simp)
  rw [nums_legs h]
  generalize (if back then -t.1.2.2.2.2.1 else t.1.2.2.2.2.1) = n at *
  unfold wm at s1 s2
  rw [List.all_eq_true]
  intro x hx
  unfold okLeg okAm
  rw [Bool.and_eq_true, Bool.and_eq_true, okK_iff, isMoney_iff, isMoney_iff]
  unfold twoL at hx
  rcases List.mem_cons.1 hx with rfl | hx
  · refine ⟨⟨hk.2.1, hk.2.2.2.2⟩, ?_, ?_⟩ <;> simp only <;> omega
  · rcases List.mem_cons.1 hx with rfl | hx
    · refine ⟨⟨hk.2.2.1, hk.2.2.2.2⟩, ?_, ?_⟩
      · simp only; omega
      · simp only [Int.neg_mul]; omega
    · cases hx
def sideB (t : Tr) (k : Ky) : Bool := isK k (t.1.2.1, t.1.2.2.2.1, 0, 0)
def sideS (t : Tr) (k : Ky) : Bool := isK k (t.1.2.2.1, t.1.2.2.2.1, 0, 0)
theorem qK_two (t : Tr) (m : Int) (k : Ky) : qK (twoL t m) k = (if sideB t k then m else 0) + ((if sideS t k then -m else 0) + 0) := by
  show qK [_, _] k = _
  rw [qK_cons, qK_cons, qK_nil]; rfl
theorem cK_two (t : Tr) (m : Int) (k : Ky) : cK (twoL t m) k = (if sideB t k then m * t.1.2.2.2.2.2 else 0) + ((if sideS t k then -m * t.1.2.2.2.2.2 else 0) + 0) := by
  show cK [_, _] k = _
  rw [cK_cons, cK_cons, cK_nil]; rfl
theorem sides_two {t : Tr} (h : numsT t = true) (k : Ky) : ¬ (sideB t k = true ∧ sideS t k = true) := by
  have hk := (numsT_iff t).1 h
  rintro ⟨h1, h2⟩
  unfold sideB at h1
  unfold sideS at h2
  rw [isK_iff] at h1 h2
  have := h1.trans h2.symm
  unfold keyP at this
  simp only [Prod.mk.injEq] at this
  exact hk.2.2.2.1 this.1
theorem qK_small {t : Tr} (h : numsT t = true) (back : Bool) (k : Ky) : wm (qK (legsT t back) k) 1048576 ∧ wm (cK (legsT t back) k) 1125899906842624 := by
  obtain ⟨s1, s2⟩ := two_small h (n := if back then -t.1.2.2.2.2.1 else t.1.2.2.2.2.1) (by cases back <;> simp)
  have hne := sides_two h k
  rw [nums_legs h, qK_two, cK_two]
  generalize (if back then -t.1.2.2.2.2.1 else t.1.2.2.2.2.1) = n at *
  rw [Int.neg_mul]
  generalize n * t.1.2.2.2.2.2 = c at *
  generalize sideB t k = x at *
  generalize sideS t k = y at *
  unfold wm at *
  cases x <;> cases y <;> simp at * <;> omega
/-- Only what a trade says beside its number counts. -/
def bare (t : Tr) : Int × Int × Int × Int × Int := t.1.2
theorem nums_bare {t u : Tr} (h : t.1.2 = u.1.2) : numsT t = numsT u := by
  unfold numsT sizedT
  rw [h]
end Go.Proofs.YtodnllopokoicaaGreat.NumK
namespace Go.Proofs.YtodnllopokoicaaGreat.NumK
open Go.RowKit
set_option linter.unusedVariables false

def worthV (p : Po) (mult price : Int) : Int := mult * (p.2.2.1 * price - p.2.2.2)
def mayW (p : Po) (mult price : Int) : Bool := okQ p.2.2.1 && isMoney p.2.2.2 && wi mult 1 1024 && wi price 0 1073741824
def worthE (p : Po) (mult price : Int) : Int := if mayW p mult price then (if isMoney (worthV p mult price) then 0 else 1) else 3
def worthN (p : Po) (mult price : Int) : Int := if worthE p mult price = 0 then worthV p mult price else 0
/-- The price that was told, or the last one; none: 0. -/
def priceI (i : In) : Int := if i.1.2.2.2.2.1 = 0 then i.1.2.2.2.2.2 else i.1.2.2.2.2.1
def priceE (i : In) : Int := if i.1.2.2.2.2.1 = 0 ∧ i.1.2.2.2.2.2 = 0 then 20 else 0
def instOf (r : Rl) (p : Po) : In := findL noIn in0 r.2.1 p.2.1
def hasI (r : Rl) (p : Po) : Bool := hasL noIn r.2.1 p.2.1
def wonP (r : Rl) (p : Po) : Int := worthV p (instOf r p).1.2.2.1 (priceI (instOf r p))
def costP (r : Rl) (p : Po) : Int := p.2.2.1 * priceI (instOf r p)
/-- What is amiss with a position. -/
def stepM (r : Rl) (p : Po) : Int :=
  if hasI r p then (if priceI (instOf r p) = 0 ∧ p.2.2.1 ≠ 0 then 20 else (if isMoney (wonP r p) && isMoney (costP r p) then 0 else 1)) else 10
/-- The first thing that is amiss. -/
def firstM (r : Rl) : List Po → Int
  | [] => 0
  | p :: l => if stepM r p = 0 then firstM r l else stepM r p
/-- Marked. -/
def markP (r : Rl) (p : Po) : Option Po := if p.2.2.1 = 0 ∧ costP r p = 0 then none else some (p.1, p.2.1, p.2.2.1, costP r p)
def markL (r : Rl) (l : List Po) : List Po := l.filterMap (markP r)
def dueP (r : Rl) (p : Po) : Int × Int × Int := (p.1, (instOf r p).1.2.1, wonP r p)
def duesM (r : Rl) (l : List Po) : List (Int × Int × Int) := l.map (dueP r)
/-! ### what all win -/
/-! ### from price to price -/
end Go.Proofs.YtodnllopokoicaaGreat.NumK
namespace Go.Proofs.YtodnllopokoicaaGreat.NumK
open Go.RowKit
set_option linter.unusedVariables false

/-- Does a position count? -/
def cntG (r : Rl) (who cur : Int) (p : Po) : Bool := hasI r p && (decide (p.1 = who) && decide ((instOf r p).1.2.1 = cur))
def shJ (i : In) (j : Nat) : Int := (shIn i).getD j 0
def lossP (r : Rl) (j : Nat) (p : Po) : Int := -p.2.2.1 * ((instOf r p).1.2.2.1 * shJ (instOf r p) j)
def lossV (r : Rl) (who cur : Int) (l : List Po) (j : Nat) : Int := ((l.filter (cntG r who cur)).map (lossP r j)).sum
def absI (q : Int) : Int := if -q < q then q else -q
theorem abs_facts (q : Int) : 0 ≤ absI q ∧ q ≤ absI q ∧ -q ≤ absI q ∧ (absI q = q ∨ absI q = -q) := by unfold absI; split <;> omega
def addP (r : Rl) (p : Po) : Int := absI p.2.2.1 * (instOf r p).1.2.2.2.1
def addG (r : Rl) (who cur : Int) (l : List Po) : Int := ((l.filter (cntG r who cur)).map (addP r)).sum
/-- The greatest of the first m losses, or 0. -/
def mostV (f : Nat → Int) : Nat → Int
  | 0 => 0
  | j + 1 => if mostV f j < f j then f j else mostV f j
theorem most_nonneg (f : Nat → Int) : ∀ m, 0 ≤ mostV f m
  | 0 => Int.le_refl _
  | m + 1 => by have := most_nonneg f m; unfold mostV; split <;> omega
theorem most_ge (f : Nat → Int) : ∀ m j, j < m → f j ≤ mostV f m
  | m + 1, j, h => by
    unfold mostV
    by_cases hc : j = m
    · subst hc; split <;> omega
    · have := most_ge f m j (by omega); split <;> omega
theorem most_le (f : Nat → Int) (M : Int) (h0 : 0 ≤ M) : ∀ m, (∀ j, j < m → f j ≤ M) → mostV f m ≤ M
  | 0, _ => h0
  | m + 1, h => by
    have h1 := most_le f M h0 m fun j hj => h j (by omega)
    have h2 := h m (by omega)
    unfold mostV; split <;> omega
def margV (r : Rl) (who cur : Int) (l : List Po) : Int := mostV (lossV r who cur l) 6 + addG r who cur l

theorem loss_app (r : Rl) (who cur : Int) (l k : List Po) (j : Nat) : lossV r who cur (l ++ k) j = lossV r who cur l j + lossV r who cur k j := by
  unfold lossV; rw [List.filter_append, List.map_append, sum_app]
theorem addG_app (r : Rl) (who cur : Int) (l k : List Po) : addG r who cur (l ++ k) = addG r who cur l + addG r who cur k := by
  unfold addG; rw [List.filter_append, List.map_append, sum_app]
theorem loss_one (r : Rl) (who cur : Int) (p : Po) (j : Nat) : lossV r who cur [p] j = if cntG r who cur p then lossP r j p else 0 := by
  unfold lossV; rw [List.filter_cons]; split <;> simp
theorem addG_one (r : Rl) (who cur : Int) (p : Po) : addG r who cur [p] = if cntG r who cur p then addP r p else 0 := by
  unfold addG; rw [List.filter_cons]; split <;> simp
/-! ### add-ons are not below 0 -/
theorem inst_ok {r : Rl} (h : rightL okIn noIn in0 r.2.1 = true) {p : Po} (hp : hasI r p = true) : okIn (instOf r p) = true :=
  ((rightL_iff okIn noIn in0 r.2.1).1 h).1 _ (find_mem noIn in0 r.2.1 p.2.1 hp).1
theorem inst_add {i : In} (h : okIn i = true) : (1 ≤ i.1.2.2.1 ∧ i.1.2.2.1 ≤ 1024) ∧ (0 ≤ i.1.2.2.2.1 ∧ i.1.2.2.2.1 ≤ 1073741824) ∧ ∀ j, j < 6 → -1073741824 ≤ shJ i j ∧ shJ i j ≤ 1073741824 := by
  unfold okIn okIn6 at h
  simp only [Bool.and_eq_true, wi_iff] at h
  obtain ⟨h1, ⟨⟨⟨⟨h2, h3⟩, h4⟩, h5⟩, h6⟩, h7⟩ := h
  refine ⟨h4, h5, fun j hj => ?_⟩
  rw [List.all_eq_true] at h1
  have := h1 (shJ i j) (by unfold shJ; exact getD_mem _ _ _ (by simpa [shIn] using hj))
  unfold okSh at this
  rwa [wi_iff] at this
theorem addG_nonneg {r : Rl} (h : rightL okIn noIn in0 r.2.1 = true) (who cur : Int) (l : List Po) : 0 ≤ addG r who cur l := by
  induction l with
  | nil => exact Int.le_refl _
  | cons p l ih =>
    rw [show p :: l = [p] ++ l from rfl, addG_app, addG_one]
    split
    · next hc =>
      unfold cntG at hc
      rw [Bool.and_eq_true] at hc
      have := (inst_add (inst_ok h hc.1)).2.1
      have h2 : 0 ≤ addP r p := Int.mul_nonneg (abs_facts _).1 this.1
      omega
    · omega

/-! ### what follows -/
theorem marg_covers {r : Rl} (h : rightL okIn noIn in0 r.2.1 = true) (who cur : Int) (l : List Po) : 0 ≤ margV r who cur l ∧ ∀ j, j < 6 → lossV r who cur l j ≤ margV r who cur l := by
  have h1 := addG_nonneg h who cur l
  have h2 := most_nonneg (lossV r who cur l) 6
  unfold margV
  refine ⟨by omega, fun j hj => ?_⟩
  have := most_ge (lossV r who cur l) 6 j hj
  omega
def turnP (p : Po) : Po := (p.1, p.2.1, -p.2.2.1, p.2.2.2)
theorem loss_turn (r : Rl) (who cur : Int) (l : List Po) (j : Nat) : lossV r who cur (l.map turnP) j = -lossV r who cur l j := by
  induction l with
  | nil => rfl
  | cons p l ih =>
    have e : lossV r who cur (p :: l) j = (if cntG r who cur p then lossP r j p else 0) + lossV r who cur l j := by
      rw [show p :: l = [p] ++ l from rfl, loss_app, loss_one]
    have e2 : lossV r who cur ((p :: l).map turnP) j = (if cntG r who cur (turnP p) then lossP r j (turnP p) else 0) + lossV r who cur (l.map turnP) j := by
      rw [List.map_cons, show turnP p :: l.map turnP = [turnP p] ++ l.map turnP from rfl, loss_app, loss_one]
    have e3 : cntG r who cur (turnP p) = cntG r who cur p := rfl
    have e4 : lossP r j (turnP p) = -lossP r j p := by
      unfold lossP
      show - -p.2.2.1 * ((instOf r p).1.2.2.1 * shJ (instOf r p) j) = _
      rw [Int.neg_mul (-p.2.2.1)]
    rw [e, e2, e3, e4, ih]
    split <;> omega
end Go.Proofs.YtodnllopokoicaaGreat.NumK
namespace Go.Proofs.YtodnllopokoicaaGreat.NumK
open Go.RowKit

/-! ### numbers of 128 bits, by their halves -/
def hi64 (x : Int) : Int := x / 18446744073709551616
def lo64 (x : Int) : Int := x % 18446744073709551616
theorem w_eq (x : Int) : hi64 x * 18446744073709551616 + lo64 x = x := by unfold hi64 lo64; omega
theorem lo_bounds (x : Int) : 0 ≤ lo64 x ∧ lo64 x < 18446744073709551616 := by unfold lo64; omega
theorem w_unique (x h l : Int) (e : h * 18446744073709551616 + l = x) (h0 : 0 ≤ l) (h1 : l < 18446744073709551616) : hi64 x = h ∧ lo64 x = l := by unfold hi64 lo64; omega
def isWide (x : Int) : Bool := decide (-170141183460469231731687303715884105728 ≤ x) && decide (x < 170141183460469231731687303715884105728)
theorem isWide_iff (x : Int) : isWide x = true ↔ -170141183460469231731687303715884105728 ≤ x ∧ x < 170141183460469231731687303715884105728 := by simp [isWide]
theorem hi_bounds (x : Int) (h : isWide x = true) : -9223372036854775808 ≤ hi64 x ∧ hi64 x ≤ 9223372036854775807 := by
  rw [isWide_iff] at h; unfold hi64; omega

theorem ret_wv {x a b : Int} (h1 : a = hi64 x) (h2 : b = lo64 x) : Ending.returned (.agg #[.int .i64 a, .int .u64 b]) = .returned (.agg #[.int .i64 (hi64 (x)), .int .u64 (lo64 (x))]) := by rw [h1, h2]
theorem not_u64 (y : Int) (h0 : 0 ≤ y) (h1 : y < 18446744073709551616) : bits .xor .u64 IntKind.u64.max y = 18446744073709551615 - y := by
  obtain ⟨m, rfl⟩ := Int.eq_ofNat_of_zero_le h0
  have e1 : (BitVec.ofInt 64 IntKind.u64.max) = BitVec.allOnes 64 := by decide
  have e2 : (BitVec.ofInt 64 (m : Int)).toNat = m := by
    rw [BitVec.ofInt_natCast, BitVec.toNat_ofNat]; exact Nat.mod_eq_of_lt (by omega)
  show IntKind.u64.wrap ((BitVec.ofInt 64 IntKind.u64.max ^^^ BitVec.ofInt 64 (m : Int)).toNat : Int) = _
  rw [e1, BitVec.xor_comm, BitVec.xor_allOnes, BitVec.toNat_not, e2, IntKind.wrap_u64]
  omega
/-- The block that a call laid for its result stands as it was behind a callee that keeps what was there. -/
theorem own_cells {w w1 : World} {v0 v1 : Value} {t t2 : TypeId} {cs : Array Value} (h : Grew ((w.alloc (.cells #[v0, v1] t)).alloc (.cells cs t2)) w1) :
    w1.cell? ⟨w.heap.size, 0, none⟩ = some v0 ∧ w1.cell? ⟨w.heap.size, 1, none⟩ = some v1 ∧ w1.frozen? ⟨w.heap.size, 0, none⟩ = false ∧ w1.frozen? ⟨w.heap.size, 1, none⟩ = false ∧ w.heap.size < w1.heap.size := by
  have hs := h.size
  have hl : w.heap.size < ((w.alloc (.cells #[v0, v1] t)).alloc (.cells cs t2)).heap.size := by simp; omega
  exact ⟨(Below.cell h (p := ⟨w.heap.size, 0, none⟩) hl).trans (by simp), (Below.cell h (p := ⟨w.heap.size, 1, none⟩) hl).trans (by simp),
    (Below.frozen h (p := ⟨w.heap.size, 0, none⟩) hl).trans (by simp), (Below.frozen h (p := ⟨w.heap.size, 1, none⟩) hl).trans (by simp), by omega⟩
theorem own_grew {w w1 : World} {c1 c2 : Array Value} {t1 t2 : TypeId} (h : Grew ((w.alloc (.cells c1 t1)).alloc (.cells c2 t2)) w1) : Grew w w1 := grew_trans (grew_trans (grew_alloc _ _ _) (grew_alloc _ _ _)) h
theorem times_arith (a b : Int) (ha : -9223372036854775808 ≤ a ∧ a ≤ 9223372036854775807) (hb : -9223372036854775808 ≤ b ∧ b ≤ 9223372036854775807) :
    a.natAbs * b.natAbs ≤ 85070591730234615865843651857942052864 ∧ ((a < 0 ↔ b < 0) → a * b = (a.natAbs * b.natAbs : Nat)) ∧ ((a < 0 ↔ ¬ b < 0) → a * b = -(a.natAbs * b.natAbs : Nat)) := by
  have hp : ((a * b).natAbs) = a.natAbs * b.natAbs := Int.natAbs_mul a b
  have hs : (a < 0 ↔ b < 0) → 0 ≤ a * b := fun h => by
    by_cases c : a < 0
    · exact Int.mul_nonneg_of_nonpos_of_nonpos (by omega) (by omega)
    · exact Int.mul_nonneg (by omega) (by omega)
  have hn : (a < 0 ↔ ¬ b < 0) → a * b ≤ 0 := fun h => by
    by_cases c : a < 0
    · exact Int.mul_nonpos_of_nonpos_of_nonneg (by omega) (by omega)
    · exact Int.mul_nonpos_of_nonneg_of_nonpos (by omega) (by omega)
  have hm : a.natAbs * b.natAbs ≤ 9223372036854775808 * 9223372036854775808 := Nat.mul_le_mul (by omega) (by omega)
  generalize a.natAbs * b.natAbs = P at *
  generalize a * b = p at *
  exact ⟨by omega, fun h => by have := hs h; omega, fun h => by have := hn h; omega⟩
def intV (x : Int) : Int := if isMoney x then x else 0
theorem intV_in {x : Int} (h : isMoney x = true) : intV x = x := by simp [intV, h]
theorem intV_out {x : Int} (h : isMoney x = false) : intV x = 0 := by simp [intV, h]
theorem ret_vb {a a' : Int} {b b' : Bool} (h1 : a = a') (h2 : b = b') : Ending.returned (.tuple #[.int .i64 a, .bool b]) = .returned (.tuple #[.int .i64 a', .bool b']) := by rw [h1, h2]
theorem keep2 {w w1 w2 : World} {v0 v1 : Value} (g : Grew w1 w2) (h1 : w1.cell? ⟨w.heap.size, 0, none⟩ = some v0) (h2 : w1.cell? ⟨w.heap.size, 1, none⟩ = some v1) (h3 : w.heap.size < w1.heap.size) (h4 : Grew w w1) :
    w2.cell? ⟨w.heap.size, 0, none⟩ = some v0 ∧ w2.cell? ⟨w.heap.size, 1, none⟩ = some v1 ∧ w.heap.size < w2.heap.size ∧ Grew w w2 :=
  ⟨(grew_cell g (p := ⟨w.heap.size, 0, none⟩) h3).trans h1, (grew_cell g (p := ⟨w.heap.size, 1, none⟩) h3).trans h2, Nat.lt_of_lt_of_le h3 g.size, grew_trans h4 g⟩
theorem ret_wb {x a b : Int} {p q : Bool} (h1 : a = hi64 x) (h2 : b = lo64 x) (h3 : p = q) : Ending.returned (.tuple #[.agg #[.int .i64 a, .int .u64 b], .bool p]) = .returned (.tuple #[(.agg #[.int .i64 (hi64 (x)), .int .u64 (lo64 (x))]), .bool q]) := by rw [h1, h2, h3]
def wsV (x : Int) : Int := if isWide x then x else 0
end Go.Proofs.YtodnllopokoicaaGreat.NumK
namespace Go.Proofs.YtodnllopokoicaaGreat.NumK
open Go.RowKit

theorem mul_abs {a b : Int} {A B : Nat} (ha : a.natAbs ≤ A) (hb : b.natAbs ≤ B) : (a * b).natAbs ≤ A * B := by rw [Int.natAbs_mul]; exact Nat.mul_le_mul ha hb
theorem isWide_abs {x : Int} (h : x.natAbs ≤ 85070591730234615865843651857942052864) : isWide x = true := by rw [isWide_iff]; omega
end Go.Proofs.YtodnllopokoicaaGreat.NumK
namespace Go.Proofs.YtodnllopokoicaaGreat.NumK
open Go.RowKit

/-- How many cells, and what they read as in a world; what is read stays where the world only grows. -/
structure Sp (α : Type) where
  size : Nat
  rd : World → List Value → α → Prop
  len : ∀ {w : World} {cs : List Value} {a : α}, rd w cs a → cs.length = size
  keep : ∀ {w w' : World} {cs : List Value} {a : α}, rd w cs a → Grew w w' → rd w' cs a

def spInt (k : IntKind) : Sp Int := ⟨1, fun _ cs n => cs = [.int k n] ∧ (Lit.int k n).wf = true, fun h => by rw [h.1]; rfl, fun h _ => h⟩
def spBool : Sp Bool := ⟨1, fun _ cs b => cs = [.bool b], fun h => by rw [h]; rfl, fun h _ => h⟩
def spStr : Sp ByteArray := ⟨1, fun _ cs s => cs = [.string s] ∧ s.size ≤ maxLen, fun h => by rw [h.1]; rfl, fun h _ => h⟩
def spPair {α β : Type} (A : Sp α) (B : Sp β) : Sp (α × β) :=
  ⟨A.size + B.size, fun w cs p => ∃ c1 c2, cs = c1 ++ c2 ∧ A.rd w c1 p.1 ∧ B.rd w c2 p.2,
    fun ⟨_, _, e, h1, h2⟩ => by rw [e, List.length_append, A.len h1, B.len h2],
    fun ⟨c1, c2, e, h1, h2⟩ g => ⟨c1, c2, e, A.keep h1 g, B.keep h2 g⟩⟩

theorem addr_add (b o k : Nat) : (⟨b, o, none⟩ : Addr).add k = ⟨b, o + k, none⟩ := by unfold Addr.add; split <;> simp_all

/-- A slice's elements, wherever they lie. -/
def Row {α : Type} (A : Sp α) (w : World) (ad : Option Addr) (n : Nat) (l : List α) : Prop :=
  l.length = n ∧ (0 < n → ∃ b o, ad = some ⟨b, o, none⟩ ∧ b < w.heap.size ∧ ∀ j (h : j < l.length), ∃ cs, A.rd w cs l[j] ∧ ∀ i, i < A.size → w.cell? ⟨b, o + j * A.size + i, none⟩ = cs[i]?)
theorem Row.keep {α : Type} {A : Sp α} {w w' : World} {ad : Option Addr} {n : Nat} {l : List α} (h : Row A w ad n l) (g : Grew w w') : Row A w' ad n l :=
  ⟨h.1, fun hn => by
    obtain ⟨b, o, e, hb, hc⟩ := h.2 hn
    refine ⟨b, o, e, Nat.lt_of_lt_of_le hb g.size, fun j hj => ?_⟩
    obtain ⟨cs, h1, h2⟩ := hc j hj
    exact ⟨cs, A.keep h1 g, fun i hi => (grew_cell g (p := ⟨b, o + j * A.size + i, none⟩) hb).trans (h2 i hi)⟩⟩
theorem Row.nil {α : Type} (A : Sp α) (w : World) (ad : Option Addr) : Row A w ad 0 [] := ⟨rfl, fun h => absurd h (by omega)⟩
theorem Row.take {α : Type} {A : Sp α} {w : World} {ad : Option Addr} {n k : Nat} {l : List α} (h : Row A w ad n l) (hk : k ≤ n) : Row A w ad k (l.take k) := by
  refine ⟨by have := h.1; simp; omega, fun hp => ?_⟩
  obtain ⟨b, o, e, hb, hc⟩ := h.2 (by omega)
  refine ⟨b, o, e, hb, fun j hj => ?_⟩
  obtain ⟨cs, h1, h2⟩ := hc j (by rw [List.length_take] at hj; omega)
  exact ⟨cs, by rw [List.getElem_take]; exact h1, h2⟩
theorem Row.drop {α : Type} {A : Sp α} {w : World} {ad : Addr} {n k : Nat} {l : List α} (h : Row A w (some ad) n l) (hk : k ≤ n) : Row A w (some (ad.add (k * A.size))) (n - k) (l.drop k) := by
  refine ⟨by have := h.1; simp; omega, fun hp => ?_⟩
  obtain ⟨b, o, e, hb, hc⟩ := h.2 (by omega)
  cases e
  refine ⟨b, o + k * A.size, by rw [addr_add], hb, fun j hj => ?_⟩
  obtain ⟨cs, h1, h2⟩ := hc (k + j) (by rw [List.length_drop] at hj; omega)
  refine ⟨cs, by rw [List.getElem_drop]; exact h1, fun i hi => ?_⟩
  rw [← h2 i hi, Nat.add_mul, Nat.add_assoc o]

def spSlice {α : Type} (A : Sp α) : Sp (List α) :=
  ⟨1, fun w cs l => ∃ ad n c, cs = [.slice ad n c] ∧ Row A w ad n l ∧ (ad = none → c = 0) ∧ n ≤ c ∧ c ≤ maxLen, fun ⟨_, _, _, e, _⟩ => by rw [e]; rfl,
    fun ⟨ad, n, c, e, h, r⟩ g => ⟨ad, n, c, e, h.keep g, r⟩⟩
def spArr {α : Type} (n : Nat) (A : Sp α) : Sp (List α) :=
  ⟨n * A.size, fun w cs l => l.length = n ∧ cs.length = n * A.size ∧ ∀ j (h : j < l.length), A.rd w ((cs.drop (j * A.size)).take A.size) l[j], fun h => h.2.1,
    fun h g => ⟨h.1, h.2.1, fun j hj => A.keep (h.2.2 j hj) g⟩⟩
/-- The same cells, read through a function. -/
def spMap {α β : Type} (f : α → β) (A : Sp α) : Sp β :=
  ⟨A.size, fun w cs b => ∃ a, A.rd w cs a ∧ f a = b, fun ⟨_, h, _⟩ => A.len h, fun ⟨a, h, e⟩ g => ⟨a, A.keep h g, e⟩⟩

/-- What came in at type t reads as A says. -/
def Opens (P : Program) (t : TypeId) {α : Type} (A : Sp α) : Prop :=
  P.cellsOf t = A.size ∧ ∀ {H : Type} (enc : TypeId × Value → H) (w : World) (held : Bool) (fuel : Nat) (cs : List Value) (x : DataW H × List MemPlace), DataW.trod enc P w 0 (fun _ => true) held fuel t cs = some x → ∃ a, A.rd w cs a

theorem opens_int {P : Program} {t : TypeId} {k : IntKind} (ht : P.underlying t = some (.int k)) (hc : P.cellsOf t = 1) : Opens P t (spInt k) :=
  ⟨hc, fun _ _ _ _ _ _ h => by obtain ⟨n, e, _, w⟩ := DataW.trod_int ht h; exact ⟨n, e, w⟩⟩
theorem opens_bool {P : Program} {t : TypeId} (ht : P.underlying t = some .bool) (hc : P.cellsOf t = 1) : Opens P t spBool :=
  ⟨hc, fun _ _ _ _ _ _ h => by obtain ⟨n, e, _⟩ := DataW.trod_bool ht h; exact ⟨n, e⟩⟩
theorem opens_map {P : Program} {t : TypeId} {α β : Type} {A : Sp α} (f : α → β) (h : Opens P t A) : Opens P t (spMap f A) :=
  ⟨h.1, fun enc w held fuel cs x hx => by obtain ⟨a, ha⟩ := h.2 enc w held fuel cs x hx; exact ⟨f a, a, ha, rfl⟩⟩

theorem opens_slice {P : Program} {t e : TypeId} {α : Type} [Inhabited α] {A : Sp α} (ht : P.underlying t = some (.slice e)) (hc : P.cellsOf t = 1) (he : Opens P e A) (hz : A.size ≠ 0) : Opens P t (spSlice A) := by
  refine ⟨hc, fun enc w held fuel cs x h => ?_⟩
  rcases Go.Deep.open_slice ht h with ⟨rfl, _⟩ | ⟨a, len, cap, m, n, D, Pl, rfl, _, hl, hm, hmm, _, hx⟩
  · exact ⟨[], none, 0, 0, rfl, Row.nil A w none, fun _ => rfl, Nat.le_refl _, by unfold maxLen; omega⟩
  · simp only [if_true] at hmm
    subst hmm
    have each : ∀ i, i < m → ∃ y, ∃ cs, A.rd w cs y ∧ ∀ k, k < A.size → w.cell? ((a.add (i * A.size)).add k) = cs[k]? := by
      intro i hi
      obtain ⟨cs', h1, h2⟩ := hx i hi
      rw [he.1] at h1
      obtain ⟨_, hlen, hcell⟩ := World.cells?_some h1
      obtain ⟨y, hy⟩ := he.2 enc w held n cs' _ h2
      exact ⟨y, cs', hy, hcell⟩
    obtain ⟨f, hf⟩ := Go.Deep.choose_lt each
    refine ⟨(List.range len).map f, some a, len, m, rfl, ⟨by simp, fun h0 => ?_⟩, fun h => by (cases h), hl, hm⟩
    obtain ⟨b, o, spot⟩ := a
    obtain ⟨cs0, h1, h2⟩ := hf 0 (by omega)
    have h3 := h2 0 (by omega)
    have hl0 := A.len h1
    have h4 : w.cell? ⟨b, o, spot⟩ = some cs0[0] := by
      rw [List.getElem?_eq_getElem (by omega)] at h3
      simpa [Addr.add] using h3
    have hspot : spot = none := by simpa using World.cell?_spot h4
    subst hspot
    refine ⟨b, o, rfl, by simpa using World.block_lt_of_cell? w _ h4, fun j hj => ?_⟩
    obtain ⟨cs', g1, g2⟩ := hf j (by simp at hj; omega)
    refine ⟨cs', by simpa using g1, fun i hi => ?_⟩
    rw [← g2 i hi, addr_add, addr_add]

/-- A struct's fields, in their order, from a cell on. -/
inductive Fs (P : Program) : List Field → Nat → {α : Type} → Sp α → Prop
  | last {α : Type} {A : Sp α} (f : Field) (off : Nat) (ho : f.offset = off) (h : Opens P f.type A) : Fs P [f] off A
  | cons {α β : Type} {A : Sp α} {B : Sp β} (f : Field) (fs : List Field) (off : Nat) (ho : f.offset = off) (h : Opens P f.type A) (r : Fs P fs (off + A.size) B) : Fs P (f :: fs) off (spPair A B)

theorem Fs.rd {P : Program} {H : Type} {enc : TypeId × Value → H} {w : World} {held : Bool} {n : Nat} {cs : List Value} {fs : List Field} {off : Nat} {α : Type} {A : Sp α} (h : Fs P fs off A)
    (hx : ∀ f ∈ fs, ∃ y, DataW.trod enc P w 0 (fun _ => true) held n f.type ((cs.drop f.offset).take (P.cellsOf f.type)) = some y) : ∃ a, A.rd w ((cs.drop off).take A.size) a := by
  induction h with
  | last f off ho h =>
    obtain ⟨y, hy⟩ := hx f (by simp)
    rw [ho, h.1] at hy
    exact h.2 enc w held n _ y hy
  | @cons α β A B f fs off ho h r ih =>
    obtain ⟨y, hy⟩ := hx f (by simp)
    rw [ho, h.1] at hy
    obtain ⟨a, ha⟩ := h.2 enc w held n _ y hy
    obtain ⟨b, hb⟩ := ih fun g hg => hx g (by simp [hg])
    refine ⟨(a, b), _, _, ?_, ha, hb⟩
    show (cs.drop off).take (A.size + B.size) = _
    rw [List.take_add, List.drop_drop]

theorem opens_struct {P : Program} {t : TypeId} {fs : Array Field} {α : Type} {A : Sp α} (ht : P.underlying t = some (.struct fs)) (hc : P.cellsOf t = A.size) (h : Fs P fs.toList 0 A) : Opens P t A := by
  refine ⟨hc, fun enc w held fuel cs x hx => ?_⟩
  obtain ⟨xs, n, _, _, hl, hlen, hf⟩ := DataW.trod_struct ht hx
  obtain ⟨a, ha⟩ := Fs.rd (enc := enc) (w := w) (held := held) (n := n) (cs := cs) h (fun f hfm => by
    obtain ⟨i, hi, rfl⟩ := List.getElem_of_mem hfm
    have e := hf i fs.toList[i] (by simp)
    rw [e, List.getElem?_eq_getElem (by simp at hi; omega)]
    exact ⟨_, rfl⟩)
  rw [List.drop_zero, List.take_of_length_le (by omega)] at ha
  exact ⟨a, ha⟩

theorem opens_arr {P : Program} {t e : TypeId} {n : Nat} {α : Type} [Inhabited α] {A : Sp α} (ht : P.underlying t = some (.array n e)) (hc : P.cellsOf t = n * A.size) (he : Opens P e A) : Opens P t (spArr n A) := by
  refine ⟨hc, fun enc w held fuel cs x hx => ?_⟩
  obtain ⟨xs, m, _, _, hl, hlen, hf⟩ := DataW.trod_array ht hx
  have each : ∀ i, i < n → ∃ y, A.rd w ((cs.drop (i * A.size)).take A.size) y := fun i hi => by
    have e := hf i hi
    rw [he.1, List.getElem?_eq_getElem (by omega)] at e
    exact he.2 enc w held m _ _ e
  obtain ⟨f, hf2⟩ := Go.Deep.choose_lt each
  exact ⟨(List.range n).map f, by simp, by omega, fun j hj => by simpa using hf2 j (by simpa using hj)⟩

end Go.Proofs.YtodnllopokoicaaGreat.NumK
namespace Go.Proofs.YtodnllopokoicaaGreat.NumK
open Go.RowKit

/-- How an element lies in cells. -/
structure En (α : Type) where
  size : Nat
  cs : α → List Value
  len : ∀ a, (cs a).length = size
  one : ∀ a, ∀ v ∈ cs a, v.oneCell' = true
  pos : 0 < size

def En.sp {α : Type} (E : En α) : Sp α := ⟨E.size, fun _ cs a => cs = E.cs a, fun h => by rw [h]; exact E.len _, fun h _ => h⟩

/-- A row of them, wherever it lies. -/
def RowE {α : Type} (E : En α) (w : World) (A : Option Addr) (n : Nat) (l : List α) : Prop := Row E.sp w A n l

theorem Row.imp {α β : Type} {A : Sp α} {B : Sp β} (f : α → β) (hs : B.size = A.size) {w : World} (hf : ∀ cs a, A.rd w cs a → B.rd w cs (f a)) {ad : Option Addr} {n : Nat} {l : List α} (h : Row A w ad n l) : Row B w ad n (l.map f) := by
  refine ⟨by rw [List.length_map]; exact h.1, fun hn => ?_⟩
  obtain ⟨b, o, e, hb, hc⟩ := h.2 hn
  refine ⟨b, o, e, hb, fun j hj => ?_⟩
  obtain ⟨cs, h1, h2⟩ := hc j (by simpa using hj)
  exact ⟨cs, by rw [List.getElem_map]; exact hf _ _ h1, fun i hi => by rw [hs]; exact h2 i (by rw [← hs]; exact hi)⟩

theorem RowE.keep {α : Type} {E : En α} {w w' : World} {ad : Option Addr} {n : Nat} {l : List α} (h : RowE E w ad n l) (g : Grew w w') : RowE E w' ad n l := Row.keep h g
theorem RowE.nil {α : Type} (E : En α) (w : World) (ad : Option Addr) : RowE E w ad 0 [] := Row.nil _ w ad
theorem RowE.len {α : Type} {E : En α} {w : World} {ad : Option Addr} {n : Nat} {l : List α} (h : RowE E w ad n l) : l.length = n := h.1
theorem RowE.at {α : Type} {E : En α} {w : World} {ad : Option Addr} {n : Nat} {l : List α} (h : RowE E w ad n l) (hn : 0 < n) :
    ∃ b o, ad = some ⟨b, o, none⟩ ∧ b < w.heap.size ∧ ∀ j (hj : j < l.length), ∀ i, i < E.size → w.cell? ⟨b, o + j * E.size + i, none⟩ = (E.cs l[j])[i]? := by
  obtain ⟨b, o, e, hb, hc⟩ := h.2 hn
  refine ⟨b, o, e, hb, fun j hj i hi => ?_⟩
  obtain ⟨cs, h1, h2⟩ := hc j hj
  have h1 : cs = E.cs l[j] := h1
  subst h1
  exact h2 i hi
theorem RowE.take {α : Type} {E : En α} {w : World} {ad : Option Addr} {n k : Nat} {l : List α} (h : RowE E w ad n l) (hk : k ≤ n) : RowE E w ad k (l.take k) := Row.take h hk

/-- A block that the call has made, behind whatever only grows. -/
theorem own_cell {w w1 : World} {cs : Array Value} {t : TypeId} (h : Grew (w.alloc (.cells cs t)) w1) (i : Nat) : w1.cell? ⟨w.heap.size, i, none⟩ = cs[i]? :=
  (Below.cell h (p := ⟨w.heap.size, i, none⟩) (by simp)).trans (by rw [World.cell?_alloc_at _ _ _ _ (by simp)])
theorem own_lt {w w1 : World} {cs : Array Value} {t : TypeId} (h : Grew (w.alloc (.cells cs t)) w1) : w.heap.size < w1.heap.size := by have := h.size; simp at this; omega
theorem own_back {w w1 : World} {cs : Array Value} {t : TypeId} (h : Grew (w.alloc (.cells cs t)) w1) : Grew w w1 := grew_trans (grew_alloc _ _ _) h

/-! ### what a call owns -/
def OwnE {α : Type} (E : En α) (w : World) (base : Nat) (t : TypeId) (v : Value) (l : List α) : Prop := w.ownsRow base t E.size v l.length (l.flatMap E.cs)

theorem En.flat_len {α : Type} (E : En α) (l : List α) : (l.flatMap E.cs).length = l.length * E.size := by
  induction l with
  | nil => simp
  | cons x l ih => rw [List.flatMap_cons, List.length_append, ih, E.len, List.length_cons, Nat.succ_mul, Nat.add_comm]
theorem En.flat_at {α : Type} (E : En α) (l : List α) (j : Nat) (h : j < l.length) (i : Nat) (hi : i < E.size) : (l.flatMap E.cs)[j * E.size + i]? = (E.cs l[j])[i]? := by
  induction l generalizing j with
  | nil => simp at h
  | cons x l ih =>
    rw [List.flatMap_cons]
    cases j with
    | zero =>
      rw [Nat.zero_mul, Nat.zero_add, List.getElem?_append_left (by rw [E.len]; exact hi)]; rfl
    | succ j =>
      rw [List.getElem?_append_right (by rw [E.len, Nat.succ_mul]; omega), E.len, show (j + 1) * E.size + i - E.size = j * E.size + i by rw [Nat.succ_mul]; omega, ih j (by simpa using h)]
      rfl

theorem OwnE.nil {α : Type} (E : En α) (w : World) (base : Nat) (t : TypeId) : OwnE E w base t (.slice none 0 0) [] := World.ownsRow_nil _ _ _ _
theorem OwnE.empty {α : Type} (E : En α) (w : World) (base : Nat) (t : TypeId) (hb : base ≤ w.heap.size) : OwnE E (w.alloc (.cells #[] t)) base t (.slice (some ⟨w.heap.size, 0, none⟩) 0 0) [] :=
  ⟨by simp, .inr ⟨w.heap.size, 0, #[], rfl, hb, heap_alloc_new w _, Nat.le_refl _, by unfold maxLen; omega, by simp, by simp⟩⟩
theorem OwnE.form {α : Type} {E : En α} {w : World} {base : Nat} {t : TypeId} {v : Value} {l : List α} (h : OwnE E w base t v l) :
    ∃ A c, v = .slice A l.length c ∧ RowE E w A l.length l ∧ (A = none → c = 0) ∧ l.length ≤ c ∧ c ≤ maxLen := by
  obtain ⟨_, h⟩ := h
  rcases h with ⟨rfl, h0⟩ | ⟨g, cap, cur, rfl, _, hh, hc, hm, _, ht⟩
  · obtain rfl := List.eq_nil_of_length_eq_zero h0
    exact ⟨none, 0, rfl, RowE.nil E w none, fun _ => rfl, Nat.le_refl _, by unfold maxLen; omega⟩
  · refine ⟨some ⟨g, 0, none⟩, cap, rfl, ⟨rfl, fun hn => ⟨g, 0, rfl, ?_, fun j hj => ⟨E.cs l[j], rfl, fun i hi => ?_⟩⟩⟩, (fun h => by cases h), hc, hm⟩
    · rcases Nat.lt_or_ge g w.heap.size with h1 | h1
      · exact h1
      · rw [Array.getElem?_eq_none h1] at hh; cases hh
    · have hi : i < E.size := hi
      have e1 := E.flat_at l j hj i hi
      have hlt : j * E.size + i < l.length * E.size := by
        have : (j + 1) * E.size ≤ l.length * E.size := Nat.mul_le_mul_right _ hj
        rw [Nat.succ_mul] at this; omega
      rw [← ht, List.getElem?_take, if_pos hlt, Array.getElem?_toList] at e1
      show w.cell? ⟨g, 0 + j * E.size + i, none⟩ = _
      rw [cell_of_row w g _ cur t (0, 0) hh, Nat.zero_add, e1]
theorem OwnE.keep {α : Type} {E : En α} {w w' : World} {base : Nat} {t : TypeId} {v : Value} {l : List α} (h : OwnE E w base t v l) (g : Grew w w') : OwnE E w' base t v l := by
  obtain ⟨hl, h⟩ := h
  refine ⟨hl, ?_⟩
  rcases h with h | ⟨b, cap, cur, hv, hb, hh, r⟩
  · exact Or.inl h
  · refine Or.inr ⟨b, cap, cur, hv, hb, ?_, r⟩
    rw [g.block b ?_]
    · exact hh
    · rcases Nat.lt_or_ge b w.heap.size with h1 | h1
      · exact h1
      · rw [Array.getElem?_eq_none h1] at hh; cases hh
theorem OwnE.mono {α : Type} {E : En α} {w : World} {base base2 : Nat} {t : TypeId} {v : Value} {l : List α} (h : OwnE E w base t v l) (hb : base2 ≤ base) : OwnE E w base2 t v l := by
  obtain ⟨hl, h⟩ := h
  refine ⟨hl, ?_⟩
  rcases h with h | ⟨b, cap, cur, hv, h1, hh, r⟩
  · exact Or.inl h
  · exact Or.inr ⟨b, cap, cur, hv, by omega, hh, r⟩

section
variable {w : World} {ops : Array Oper} {rest : List Oper} {o : Oper} {a : Act} {Q : Exit → Act → World → Prop}
theorem wpList_append_E {α : Type} {E : En α} (hgd : o.guard = none) (s x : Operand) (T t : TypeId) (z : Value) (by' : Nat)
    (ho : o.op = .call { callee := .builtin .append, args := #[s, x], argTypes := #[T, T] })
    (hT : Tryz.prog.underlying T = some (.slice t)) (hi : (Tryz.prog.info? t).map (fun i => (i.zero, i.size, i.bytes)) = some (some z, E.size, by')) (hz : z.cells.size = E.size)
    (base : Nat) (v : Value) (l : List α) (hs : a.eval s = v) (hown : OwnE E w base t v l)
    (A : Option Addr) (m c : Nat) (zs : List α) (hx : a.eval x = .slice A m c) (hA : A = none → c = 0) (hR : RowE E w A m zs)
    (hm : l.length + m ≤ maxLen) (hlim : (l.length + m) * by' ≤ 140737488355328) (hbase : base ≤ w.heap.size)
    (h : ∀ v' w', OwnE E w' base t v' (l ++ zs) → Below base w w' → wpList Tryz.prog ops Q rest (a.put o.dst v') w') : wpList Tryz.prog ops Q (o :: rest) a w := by
  obtain ⟨i, hi, hz0, hz1, hz2⟩ := info_parts hi
  have hl := hR.len
  cases A with
  | none =>
    have hc := hA rfl
    subst hc
    have hm0 : m = 0 := by
      rcases Nat.eq_zero_or_pos m with h0 | h0
      · exact h0
      · obtain ⟨b, o, he, _⟩ := hR.2 h0
        cases he
    subst hm0
    have hz : zs = [] := List.eq_nil_of_length_eq_zero hl
    subst hz
    exact wpList_append_own_none hgd s x T ho base t i E.size hT hi v l.length _ hs hown hx (h v w (by simpa using hown) (Below.refl _ _))
  | some ad =>
    refine wpList_append_own w hgd s x T ho base t i z E.size by' hT hi hz0 hz1 hz2 hz E.pos v l.length _ hs hown ad m c (zs.flatMap E.cs) hx (by rw [E.flat_len, hl]) (fun j u hu => ?_) (fun u hu => ?_) hm hlim hbase (fun v' w' ho' hg _ => ?_)
    · have hj : j < zs.length * E.size := by
        rw [← E.flat_len]
        rcases Nat.lt_or_ge j (zs.flatMap E.cs).length with h1 | h1
        · exact h1
        · rw [List.getElem?_eq_none h1] at hu; cases hu
      have hq : j / E.size < zs.length := Nat.div_lt_of_lt_mul (by rw [Nat.mul_comm]; exact hj)
      have hdm : j / E.size * E.size + j % E.size = j := by rw [Nat.mul_comm]; exact Nat.div_add_mod j E.size
      have hmod : j % E.size < E.size := Nat.mod_lt _ E.pos
      obtain ⟨b, o2, he, hb, hc⟩ := hR.at (by rw [← hl]; exact Nat.lt_of_le_of_lt (Nat.zero_le _) hq)
      cases he
      have e1 := hc (j / E.size) hq (j % E.size) hmod
      rw [← E.flat_at zs _ hq _ hmod, hdm, hu] at e1
      rw [addr_add, ← e1, Nat.add_assoc, hdm]
    · obtain ⟨y, _, hy⟩ := List.mem_flatMap.1 hu
      exact E.one y u hy
    · refine h v' w' ?_ ((Below.refl base w).grown hg hbase fun k hk => (hown.lt k hk).1)
      show w'.ownsRow base t E.size v' (l ++ zs).length ((l ++ zs).flatMap E.cs)
      rw [List.length_append, hl, List.flatMap_append]
      exact ho'
end
end Go.Proofs.YtodnllopokoicaaGreat.NumK
namespace Go.Proofs.YtodnllopokoicaaGreat.NumK
open Go.RowKit
set_option linter.unusedVariables false

theorem rwithin_any (n lo hi : Int) (w : World) : Calls Tryz.prog 97 #[.int .i64 n, .int .i64 lo, .int .i64 hi] w fun e w' => e = .returned (.bool (wi n lo hi)) ∧ w = w' := by
  by_cases h1 : lo ≤ n <;> by_cases h2 : n ≤ hi
  all_goals
    (have HR : Hid (wi n lo hi = (decide (lo ≤ n) && decide (n ≤ hi))) := rfl
     generalize wi n lo hi = R at *
     simp only [h1, h2, decide_true, decide_false, Bool.and_true, Bool.and_false] at HR
     go_enter Tryz.func97, Tryz.ntmps97
     go_wp2
     go_ret
     exact ⟨ret_b HR.out.symm, rfl⟩)
theorem rwho_any (n : Int) (w : World) : Calls Tryz.prog 81 #[.int .i64 n] w fun e w' => e = .returned (.bool (wi n 1 16)) ∧ w = w' := by
  have CW := fun w => rwithin_any n 1 16 w
  generalize wi n 1 16 = R at *
  go_enter Tryz.func81, Tryz.ntmps81
  go_wp2_with (go_at_call 97; ((with_reducible refine (CW _).mono ?_); rintro e w1 ⟨rfl, rfl⟩))
  go_ret
  exact ⟨rfl, rfl⟩
end Go.Proofs.YtodnllopokoicaaGreat.NumK
namespace Go.Proofs.YtodnllopokoicaaGreat.NumK
open Go.RowKit
set_option linter.unusedVariables false

structure OwnC (w : World) (b : Nat) (cs : List Value) : Prop where
  lt : b < w.heap.size
  c : ∀ i, i < cs.length → w.cell? ⟨b, i, none⟩ = cs[i]?
  f : ∀ i, i < cs.length → w.frozen? ⟨b, i, none⟩ = false

theorem OwnC.new (w : World) (cs : List Value) (t : TypeId) (N : Nat) (hN : N = w.heap.size) : OwnC (w.alloc (.cells cs.toArray t)) N cs := by
  subst hN
  refine ⟨by simp, fun i hi => ?_, fun i hi => ?_⟩
  · rw [World.cell?_alloc_at _ _ _ _ (by simp)]; simp
  · go_simp
theorem OwnC.keep {w w' : World} {b : Nat} {cs : List Value} (h : OwnC w b cs) (g : Grew w w') : OwnC w' b cs :=
  ⟨Nat.lt_of_lt_of_le h.lt g.size, fun i hi => (grew_cell g (p := ⟨b, i, none⟩) h.lt).trans (h.c i hi), fun i hi => (Below.frozen g (p := ⟨b, i, none⟩) h.lt).trans (h.f i hi)⟩
theorem OwnC.below {w w' : World} {b B : Nat} {cs : List Value} (h : OwnC w b cs) (g : Below B w w') (hb : b < B) : OwnC w' b cs :=
  ⟨Nat.lt_of_lt_of_le h.lt g.size, fun i hi => (Below.cell g (p := ⟨b, i, none⟩) hb).trans (h.c i hi), fun i hi => (Below.frozen g (p := ⟨b, i, none⟩) hb).trans (h.f i hi)⟩
theorem OwnC.set {w : World} {b : Nat} {cs : List Value} (h : OwnC w b cs) (i : Nat) (v : Value) (hi : i < cs.length) : OwnC (w.setCell ⟨b, i, none⟩ v) b (cs.set i v) := by
  refine ⟨by simp [World.setCell]; exact h.lt, fun j hj => ?_, fun j hj => ?_⟩
  · rw [List.length_set] at hj
    by_cases hc : i = j
    · subst hc
      rw [World.cell?_setCell_same _ _ _ ((h.c i hi).trans (List.getElem?_eq_getElem hi)), List.getElem?_set_self hi]
    · rw [World.cell?_setCell_other _ _ _ _ (by intro e; simp only [Addr.mk.injEq] at e; omega), h.c j hj, List.getElem?_set_ne hc]
  · rw [List.length_set] at hj
    rw [World.frozen?_setCell]; exact h.f j hj
theorem OwnC.other {w : World} {b : Nat} {cs : List Value} (h : OwnC w b cs) (p : Addr) (v : Value) (hp : p.block ≠ b) : OwnC (w.setCell p v) b cs :=
  ⟨by simp [World.setCell]; exact h.lt, fun i hi => (World.cell?_setCell_other _ _ _ _ (by intro e; apply hp; rw [e])).trans (h.c i hi), fun i hi => by rw [World.frozen?_setCell]; exact h.f i hi⟩
theorem OwnC.drew {w : World} {b : Nat} {cs : List Value} (h : OwnC w b cs) : OwnC w.drew b cs := h.keep (Below.drew (grew_refl w))

/-- Cells of a call's own block, written one behind the other. -/
def putC (w : World) (b : Nat) : Nat → List Value → World
  | _, [] => w
  | o, v :: vs => putC (w.setCell ⟨b, o, none⟩ v) b (o + 1) vs
theorem grew_put {w : World} (b : Nat) (hb : w.heap.size ≤ b) : ∀ (vs : List Value) (o : Nat) (w1 : World), Grew w w1 → Grew w (putC w1 b o vs)
  | [], _, _, h => h
  | v :: vs, o, w1, h => grew_put b hb vs (o + 1) _ (grew_set h v hb)
theorem OwnC.put {b : Nat} : ∀ (vs : List Value) (o : Nat) (w : World) (cs : List Value), OwnC w b cs → o + vs.length ≤ cs.length → OwnC (putC w b o vs) b (cs.take o ++ vs ++ cs.drop (o + vs.length))
  | [], o, w, cs, h, _ => by rw [List.append_nil, List.length_nil, Nat.add_zero, List.take_append_drop]; exact h
  | v :: vs, o, w, cs, h, hl => by
    rw [List.length_cons] at hl
    have h2 := OwnC.put vs (o + 1) _ _ (h.set o v (by omega)) (by rw [List.length_set]; omega)
    have e : (cs.set o v).take (o + 1) ++ vs ++ (cs.set o v).drop (o + 1 + vs.length) = cs.take o ++ (v :: vs) ++ cs.drop (o + (v :: vs).length) := by
      rw [List.take_succ_eq_append_getElem (by rw [List.length_set]; omega), List.getElem_set_self, List.take_set_of_le (Nat.le_refl _), List.drop_set_of_lt (by omega), List.length_cons, show o + 1 + vs.length = o + (vs.length + 1) by omega]
      simp
    rw [← e]; exact h2
/-- All of it. -/
theorem OwnC.all {w : World} {b : Nat} {cs : List Value} (h : OwnC w b cs) (vs : List Value) (hl : vs.length = cs.length) : OwnC (putC w b 0 vs) b vs := by
  have h2 := OwnC.put vs 0 w cs h (by omega)
  rw [List.take_zero, List.nil_append, List.drop_eq_nil_of_le (by omega), List.append_nil] at h2
  exact h2
theorem OwnC.at {w : World} {b : Nat} {cs : List Value} (h : OwnC w b cs) (i : Nat) (v : Value) (hv : cs[i]? = some v) : w.cell? ⟨b, i, none⟩ = some v := by
  rcases Nat.lt_or_ge i cs.length with h1 | h1
  · rw [h.c i h1, hv]
  · rw [List.getElem?_eq_none h1] at hv; cases hv
theorem OwnC.fr {w : World} {b : Nat} {cs : List Value} (h : OwnC w b cs) (i : Nat) (hi : i < cs.length) : w.frozen? ⟨b, i, none⟩ = false := h.f i hi
end Go.Proofs.YtodnllopokoicaaGreat.NumK
namespace Go.Proofs.YtodnllopokoicaaGreat.NumK
open Go.RowKit
set_option linter.unusedVariables false

theorem OwnE.same {α : Type} {E : En α} {w w' : World} {base : Nat} {t : TypeId} {v : Value} {l : List α} (h : OwnE E w base t v l) (hs : ∀ k, base ≤ k → w'.heap[k]? = w.heap[k]?) : OwnE E w' base t v l := by
  obtain ⟨hl, h⟩ := h
  refine ⟨hl, ?_⟩
  rcases h with h | ⟨b, cap, cur, hv, hb, hh, r⟩
  · exact Or.inl h
  · exact Or.inr ⟨b, cap, cur, hv, hb, by rw [hs b hb]; exact hh, r⟩
theorem OwnE.set {α : Type} {E : En α} {w : World} {base : Nat} {t : TypeId} {v : Value} {l : List α} (h : OwnE E w base t v l) (b i : Nat) (u : Value) (hb : b < base) : OwnE E (w.setCell ⟨b, i, none⟩ u) base t v l :=
  h.same fun k hk => Below.heap_setCell _ _ _ _ (by show k ≠ b; omega)
theorem OwnE.put {α : Type} {E : En α} {base b : Nat} {t : TypeId} {v : Value} {l : List α} (hb : b < base) : ∀ (vs : List Value) (o : Nat) (w : World), OwnE E w base t v l → OwnE E (putC w b o vs) base t v l
  | [], _, _, h => h
  | u :: vs, o, w, h => OwnE.put hb vs (o + 1) _ (h.set b o u hb)
theorem OwnC.putO {b b2 : Nat} {cs : List Value} (hb : b2 ≠ b) : ∀ (vs : List Value) (o : Nat) (w : World), OwnC w b cs → OwnC (putC w b2 o vs) b cs
  | [], _, _, h => h
  | u :: vs, o, w, h => OwnC.putO hb vs (o + 1) _ (h.other ⟨b2, o, none⟩ u hb)
theorem below_cell {w w' : World} {base b i : Nat} {v : Value} (h : Below base w w') (hb : b < base) (hc : w.cell? ⟨b, i, none⟩ = some v) : w'.cell? ⟨b, i, none⟩ = some v := (Below.cell h (p := ⟨b, i, none⟩) hb).trans hc
theorem below_froz {w w' : World} {base b i : Nat} (h : Below base w w') (hb : b < base) (hc : w.frozen? ⟨b, i, none⟩ = false) : w'.frozen? ⟨b, i, none⟩ = false := (Below.frozen h (p := ⟨b, i, none⟩) hb).trans hc
theorem size_set (w : World) (p : Addr) (v : Value) : (w.setCell p v).heap.size = w.heap.size := by simp [World.setCell]
theorem le_set {n : Nat} {w : World} (p : Addr) (v : Value) (h : n ≤ w.heap.size) : n ≤ (w.setCell p v).heap.size := by rw [size_set]; exact h
end Go.Proofs.YtodnllopokoicaaGreat.NumK
namespace Go.Proofs.YtodnllopokoicaaGreat.NumK
open Go.RowKit
set_option linter.unusedVariables false

theorem own_form {α : Type} {E : En α} {w : World} {base : Nat} {t : TypeId} {A : Option Addr} {n c : Nat} {l : List α} (h : OwnE E w base t (.slice A n c) l) : RowE E w A l.length l ∧ (A = none → c = 0) ∧ l.length ≤ c ∧ c ≤ 9223372036854775807 := by
  obtain ⟨A', c', e, hr, hn, h1, h2⟩ := h.form
  cases e
  exact ⟨hr, hn, h1, by unfold maxLen at h2; omega⟩
theorem OwnE.block {α : Type} {E : En α} {w : World} {base : Nat} {t : TypeId} {A : Option Addr} {n c : Nat} {l : List α} (h : OwnE E w base t (.slice A n c) l) : ∀ x, A = some x → base ≤ x.block ∧ x.block < w.heap.size := by
  intro x hx
  subst hx
  exact World.ownsRow.lt h x.block rfl
/-- Not in one block. -/
def Apart (A B : Option Addr) : Prop := ∀ x y, A = some x → B = some y → x.block ≠ y.block
theorem apart_of {A B : Option Addr} {m p q n : Nat} (h1 : ∀ x, A = some x → m ≤ x.block ∧ x.block < p) (h2 : ∀ x, B = some x → q ≤ x.block ∧ x.block < n) (h : p ≤ q) : Apart A B := fun x y hx hy => by
  have := h1 x hx; have := h2 y hy; omega
end Go.Proofs.YtodnllopokoicaaGreat.NumK
namespace Go.Proofs.YtodnllopokoicaaGreat.NumK
open Go.RowKit
set_option linter.unusedVariables false

theorem grew_size {w w' : World} (g : Grew w w') : w.heap.size ≤ w'.heap.size := g.size
/-- A region's end: a struct laid into a block of the call's own. -/
theorem end_put {w w4 : World} {P : World → Prop} {b : Nat} {cs : List Value} (vs : List Value) (hl : vs.length = cs.length) (h : OwnC w4 b cs) (g : Grew w w4) (hb : w.heap.size ≤ b) (k : ∀ w5, OwnC w5 b vs → Grew w w5 → P w5) : P (putC w4 b 0 vs) :=
  k _ (h.all vs hl) (grew_put b hb vs 0 _ g)
theorem end_new {w w4 : World} {P : World → Prop} (vs : List Value) (t : TypeId) (g : Grew w w4) (k : ∀ w5, OwnC w5 w4.heap.size vs → Grew w w5 → P w5) : P (w4.alloc (.cells vs.toArray t)) :=
  k _ (OwnC.new w4 vs t _ rfl) (grew_trans g (grew_alloc _ _ _))
theorem end_eq {P : World → Prop} {w5 : World} (k : ∀ w, w = w5 → P w) : P w5 := k _ rfl
end Go.Proofs.YtodnllopokoicaaGreat.NumK
