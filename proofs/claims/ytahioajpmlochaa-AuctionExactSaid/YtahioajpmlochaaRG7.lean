/- Books: which are right, what is added, entered, cancelled, corrected; what follows. -/
import Derived.Test.YtahioajpmlochaaRG2
import Derived.Test.YtahioajpmlochaaRG1
import Derived.Lib.Mul64
import Derived.Laws.Bits64b
import Derived.Deep.QuietTactic
import Derived.BigQuiet
import Derived.Deep.DeepCutAuto
import Derived.Deep.Light
import Derived.Laws.Externs
namespace Go.Proofs.Ytahioajpmlochaa.NumK
open Go.RowKit
set_option linter.unusedVariables false

/-- The last number, the trades, the positions. -/
abbrev Bk := Int × List Tr × List Po
abbrev bk0 : Bk := (0, [], [])

def okQ (q : Int) : Bool := wi q (-1099511627776) 1099511627776
theorem okQ_iff (q : Int) : okQ q = true ↔ -1099511627776 ≤ q ∧ q ≤ 1099511627776 := by unfold okQ; rw [wi_iff]
def okPo (x : Po) : Bool := okK (keyP x) && okQ x.2.2.1 && isMoney x.2.2.2 && !(decide (x.2.2.1 = 0) && decide (x.2.2.2 = 0))
theorem okPo_iff (x : Po) : okPo x = true ↔ okK (keyP x) = true ∧ okQ x.2.2.1 = true ∧ isMoney x.2.2.2 = true ∧ ¬ (x.2.2.1 = 0 ∧ x.2.2.2 = 0) := by
  unfold okPo
  simp only [Bool.and_eq_true, Bool.not_eq_true', Bool.and_eq_false_iff, decide_eq_false_iff_not]
  constructor
  · rintro ⟨⟨⟨h1, h2⟩, h3⟩, h4⟩; exact ⟨h1, h2, h3, by omega⟩
  · rintro ⟨h1, h2, h3, h4⟩; exact ⟨⟨⟨h1, h2⟩, h3⟩, by omega⟩
/-- Of each instrument they add up to 0. -/
def flatI (l : List Po) : Bool := (List.range 8).all fun i : Nat => decide (qI l ((i : Int) + 1) = 0)
theorem flatI_iff (l : List Po) : flatI l = true ↔ ∀ n : Int, 1 ≤ n → n ≤ 8 → qI l n = 0 := by
  unfold flatI
  rw [List.all_eq_true]
  constructor
  · intro h n h1 h2
    have := h (n - 1).toNat (List.mem_range.2 (by omega))
    rw [show (((n - 1).toNat : Nat) : Int) + 1 = n by omega] at this
    simpa using this
  · intro h i hi
    have := List.mem_range.1 hi
    simpa using h ((i : Int) + 1) (by omega) (by omega)
def numsT (t : Tr) : Bool := sizedT t && wi t.1.2.1 1 16 && wi t.1.2.2.1 1 16 && !(decide (t.1.2.1 = t.1.2.2.1)) && wi t.1.2.2.2.1 1 8
def okTr (next : Int) (t : Tr) : Bool := numsT t && wi t.1.1 1 next
def rightPs (l : List Po) : Bool := rightL okPo noPo po0 l && flatI l
def rightTs (next : Int) (l : List Tr) : Bool := rightL (okTr next) noTr tr0 l && decide (l.length ≤ 128)
def rightB (b : Bk) : Bool := wi b.1 0 1099511627776 && rightTs b.1 b.2.1 && rightPs b.2.2

theorem rightPs_iff (l : List Po) : rightPs l = true ↔ (∀ x ∈ l, okPo x = true) ∧ Rise noPo l ∧ ∀ n : Int, 1 ≤ n → n ≤ 8 → qI l n = 0 := by
  unfold rightPs
  rw [Bool.and_eq_true, rightL_iff, flatI_iff, and_assoc]
theorem rightB_iff (b : Bk) : rightB b = true ↔ (0 ≤ b.1 ∧ b.1 ≤ 1099511627776) ∧ (((∀ t ∈ b.2.1, okTr b.1 t = true) ∧ Rise noTr b.2.1) ∧ b.2.1.length ≤ 128) ∧ rightPs b.2.2 = true := by
  unfold rightB rightTs
  rw [Bool.and_eq_true, Bool.and_eq_true, Bool.and_eq_true, rightL_iff, wi_iff, decide_eq_true_eq, and_assoc]
theorem numsT_iff (t : Tr) : numsT t = true ↔ sizedT t = true ∧ (1 ≤ t.1.2.1 ∧ t.1.2.1 ≤ 16) ∧ (1 ≤ t.1.2.2.1 ∧ t.1.2.2.1 ≤ 16) ∧ t.1.2.1 ≠ t.1.2.2.1 ∧ 1 ≤ t.1.2.2.2.1 ∧ t.1.2.2.2.1 ≤ 8 := by
  unfold numsT
  simp only [Bool.and_eq_true, wi_iff, Bool.not_eq_true', decide_eq_false_iff_not, and_assoc, ne_eq]

/-! ### adding -/
def okLeg (x : Po) : Bool := okK (keyP x) && okAm x
def addF (l legs : List Po) (k : Ky) : Int × Int := (qK l k + qK legs k, cK l k + cK legs k)
def fits (f : Ky → Int × Int) : Bool := gridK.all fun k => okQ (f k).1 && isMoney (f k).2
theorem fits_iff (f : Ky → Int × Int) : fits f = true ↔ ∀ k, okK k = true → okQ (f k).1 = true ∧ isMoney (f k).2 = true := by
  unfold fits
  rw [List.all_eq_true]
  constructor
  · intro h k hk
    have := h k ((mem_grid k).2 hk)
    rwa [Bool.and_eq_true] at this
  · intro h k hk
    rw [Bool.and_eq_true]
    exact h k ((mem_grid k).1 hk)
def addE (b : Bk) (legs : List Po) : Int := if rightB b then (if legs.all okLeg then (if flatI legs then (if fits (addF b.2.2 legs) then 0 else 1) else 12) else 3) else 14
def addB (b : Bk) (legs : List Po) : Bk := if addE b legs = 0 then (b.1, b.2.1, plA (addF b.2.2 legs)) else bk0
theorem addE_ok {b : Bk} {legs : List Po} : addE b legs = 0 ↔ rightB b = true ∧ legs.all okLeg = true ∧ flatI legs = true ∧ fits (addF b.2.2 legs) = true := by
  unfold addE
  by_cases h1 : rightB b = true
  · rw [if_pos h1]
    by_cases h2 : legs.all okLeg = true
    · rw [if_pos h2]
      by_cases h3 : flatI legs = true
      · rw [if_pos h3]
        by_cases h4 : fits (addF b.2.2 legs) = true
        · rw [if_pos h4]; exact ⟨fun _ => ⟨h1, h2, h3, h4⟩, fun _ => rfl⟩
        · rw [if_neg h4]; exact ⟨fun h => absurd h (by decide), fun h => absurd h.2.2.2 h4⟩
      · rw [if_neg h3]; exact ⟨fun h => absurd h (by decide), fun h => absurd h.2.2.1 h3⟩
    · rw [if_neg h2]; exact ⟨fun h => absurd h (by decide), fun h => absurd h.2.1 h2⟩
  · rw [if_neg h1]; exact ⟨fun h => absurd h (by decide), fun h => absurd h.1 h1⟩
theorem right_keys {l : List Po} (h : rightPs l = true) : ∀ x ∈ l, okK (keyP x) = true := fun x hx => ((okPo_iff x).1 (((rightPs_iff l).1 h).1 x hx)).1
theorem who_in {x : Po} (h : okK (keyP x) = true) : 1 ≤ x.1 ∧ x.1 ≤ 16 := ((okK_iff _).1 h).1

theorem qI_pl (f : Ky → Int × Int) (n : Int) (h1 : 1 ≤ n) (h2 : n ≤ 8) : qI (plA f) n = byW (fun k => (f k).1) n := by
  rw [qI_byW _ _ fun x hx => who_in ((mem_pl f x).1 hx).1]
  refine byW_congr fun w w1 w2 => ?_
  have := sum_pl f (w, n) ((okK_iff _).2 ⟨⟨w1, w2⟩, h1, h2⟩)
  exact (Prod.ext_iff.1 this).1
theorem cI_pl (f : Ky → Int × Int) (n : Int) (h1 : 1 ≤ n) (h2 : n ≤ 8) : cI (plA f) n = byW (fun k => (f k).2) n := by
  rw [cI_byW _ _ fun x hx => who_in ((mem_pl f x).1 hx).1]
  refine byW_congr fun w w1 w2 => ?_
  have := sum_pl f (w, n) ((okK_iff _).2 ⟨⟨w1, w2⟩, h1, h2⟩)
  exact (Prod.ext_iff.1 this).2
theorem leg_keys {legs : List Po} (h : legs.all okLeg = true) : ∀ x ∈ legs, okK (keyP x) = true := fun x hx => by
  have := List.all_eq_true.1 h x hx
  unfold okLeg at this
  rw [Bool.and_eq_true] at this
  exact this.1
theorem qI_add {l legs : List Po} (hl : ∀ x ∈ l, okK (keyP x) = true) (hg : ∀ x ∈ legs, okK (keyP x) = true) (n : Int) (h1 : 1 ≤ n) (h2 : n ≤ 8) : qI (plA (addF l legs)) n = qI l n + qI legs n := by
  rw [qI_pl _ n h1 h2, qI_byW l n fun x hx => who_in (hl x hx), qI_byW legs n fun x hx => who_in (hg x hx), ← byW_add]
  rfl
theorem cI_add {l legs : List Po} (hl : ∀ x ∈ l, okK (keyP x) = true) (hg : ∀ x ∈ legs, okK (keyP x) = true) (n : Int) (h1 : 1 ≤ n) (h2 : n ≤ 8) : cI (plA (addF l legs)) n = cI l n + cI legs n := by
  rw [cI_pl _ n h1 h2, cI_byW l n fun x hx => who_in (hl x hx), cI_byW legs n fun x hx => who_in (hg x hx), ← byW_add]
  rfl
theorem right_addP {l legs : List Po} (hl : rightPs l = true) (hg : legs.all okLeg = true) (hf : flatI legs = true) (h : fits (addF l legs) = true) : rightPs (plA (addF l legs)) = true := by
  have h3 := ((rightPs_iff l).1 hl).2.2
  refine (rightPs_iff _).2 ⟨fun x hx => ?_, rise_pl _, fun n h1 h2 => ?_⟩
  · obtain ⟨h4, h5, h6⟩ := (mem_pl _ x).1 hx
    have h7 := (fits_iff _).1 h _ h4
    rw [h5] at h7
    exact (okPo_iff x).2 ⟨h4, h7.1, h7.2, h6⟩
  · rw [qI_add (right_keys hl) (leg_keys hg) n h1 h2, h3 n h1 h2, (flatI_iff legs).1 hf n h1 h2]; rfl
/-! ### the legs of a trade -/
theorem qI_two (t : Tr) (n m : Int) : qI (twoL t n) m = 0 := by
  show qI [_, _] m = 0
  rw [qI_cons, qI_cons, qI_nil]
  unfold isI
  simp only
  split <;> omega
theorem cI_two (t : Tr) (n m : Int) : cI (twoL t n) m = 0 := by
  show cI [_, _] m = 0
  rw [cI_cons, cI_cons, cI_nil]
  unfold isI
  simp only [Int.neg_mul]
  split <;> omega
theorem qI_legs (t : Tr) (back : Bool) (m : Int) : qI (legsT t back) m = 0 := by
  unfold legsT
  split
  · exact qI_two t _ m
  · rfl
theorem cI_legs (t : Tr) (back : Bool) (m : Int) : cI (legsT t back) m = 0 := by
  unfold legsT
  split
  · exact cI_two t _ m
  · rfl
theorem legs_flatI (t : Tr) (back : Bool) : flatI (legsT t back) = true := (flatI_iff _).2 fun n _ _ => qI_legs t back n
theorem nums_legs {t : Tr} (h : numsT t = true) (back : Bool) : legsT t back = twoL t (if back then -t.1.2.2.2.2.1 else t.1.2.2.2.2.1) := by
  unfold legsT; rw [if_pos ((numsT_iff t).1 h).1]
/-- Within so much. -/
def wm (n m : Int) : Prop := -m ≤ n ∧ n ≤ m
theorem two_small {t : Tr} (h : numsT t = true) {n : Int} (hn : n = t.1.2.2.2.2.1 ∨ n = -t.1.2.2.2.2.1) : wm n 1048576 ∧ wm (n * t.1.2.2.2.2.2) 1125899906842624 := by
  have h2 := (sizedT_iff t).1 ((numsT_iff t).1 h).1
  have h3 := mul_in _ _ h2
  unfold wm
  rcases hn with rfl | rfl
  · omega
  · rw [Int.neg_mul]; omega
theorem legs_ok {t : Tr} (h : numsT t = true) (back : Bool) : (legsT t back).all okLeg = true := by
  have hk := (numsT_iff t).1 h
  obtain ⟨s1, s2⟩ := two_small h (n := if back then -t.1.2.2.2.2.1 else t.1.2.2.2.2.1) (by cases back <;> simp)
  rw [nums_legs h]
  generalize (if back then -t.1.2.2.2.2.1 else t.1.2.2.2.2.1) = n at *
  unfold wm at s1 s2
  rw [List.all_eq_true]
  intro x hx
  unfold okLeg okAm
  rw [Bool.and_eq_true, Bool.and_eq_true, okK_iff, isMoney_iff, isMoney_iff]
  unfold twoL at hx
  rcases List.mem_cons.1 hx with rfl | hx
  · refine ⟨⟨hk.2.1, hk.2.2.2.2⟩, ?_, ?_⟩ <;> simp only <;> omega
  · rcases List.mem_cons.1 hx with rfl | hx
    · refine ⟨⟨hk.2.2.1, hk.2.2.2.2⟩, ?_, ?_⟩
      · simp only; omega
      · simp only [Int.neg_mul]; omega
    · cases hx
def sideB (t : Tr) (k : Ky) : Bool := isK k (t.1.2.1, t.1.2.2.2.1, 0, 0)
def sideS (t : Tr) (k : Ky) : Bool := isK k (t.1.2.2.1, t.1.2.2.2.1, 0, 0)
theorem qK_two (t : Tr) (m : Int) (k : Ky) : qK (twoL t m) k = (if sideB t k then m else 0) + ((if sideS t k then -m else 0) + 0) := by
  show qK [_, _] k = _
  rw [qK_cons, qK_cons, qK_nil]; rfl
theorem cK_two (t : Tr) (m : Int) (k : Ky) : cK (twoL t m) k = (if sideB t k then m * t.1.2.2.2.2.2 else 0) + ((if sideS t k then -m * t.1.2.2.2.2.2 else 0) + 0) := by
  show cK [_, _] k = _
  rw [cK_cons, cK_cons, cK_nil]; rfl
theorem sides_two {t : Tr} (h : numsT t = true) (k : Ky) : ¬ (sideB t k = true ∧ sideS t k = true) := by
  have hk := (numsT_iff t).1 h
  rintro ⟨h1, h2⟩
  unfold sideB at h1
  unfold sideS at h2
  rw [isK_iff] at h1 h2
  have := h1.trans h2.symm
  unfold keyP at this
  simp only [Prod.mk.injEq] at this
  exact hk.2.2.2.1 this.1
theorem qK_small {t : Tr} (h : numsT t = true) (back : Bool) (k : Ky) : wm (qK (legsT t back) k) 1048576 ∧ wm (cK (legsT t back) k) 1125899906842624 := by
  obtain ⟨s1, s2⟩ := two_small h (n := if back then -t.1.2.2.2.2.1 else t.1.2.2.2.2.1) (by cases back <;> simp)
  have hne := sides_two h k
  rw [nums_legs h, qK_two, cK_two]
  generalize (if back then -t.1.2.2.2.2.1 else t.1.2.2.2.2.1) = n at *
  rw [Int.neg_mul]
  generalize n * t.1.2.2.2.2.2 = c at *
  generalize sideB t k = x at *
  generalize sideS t k = y at *
  unfold wm at *
  cases x <;> cases y <;> simp at * <;> omega
/-- Only what a trade says beside its number counts. -/
def bare (t : Tr) : Int × Int × Int × Int × Int := t.1.2
theorem nums_bare {t u : Tr} (h : t.1.2 = u.1.2) : numsT t = numsT u := by
  unfold numsT sizedT
  rw [h]
end Go.Proofs.Ytahioajpmlochaa.NumK
namespace Go.Proofs.Ytahioajpmlochaa.NumK
open Go.RowKit
set_option linter.unusedVariables false

/-- The trade as it stands in the book. -/
def asNo (t : Tr) (n : Int) : Tr := ((n, t.1.2), false)
def enterE (b : Bk) (t : Tr) : Int := if rightB b then (if numsT t then (if 128 ≤ b.2.1.length then 9 else (if b.1 = 1099511627776 then 1 else addE b (legsT t false))) else 3) else 14
def enterB (b : Bk) (t : Tr) : Bk := if enterE b t = 0 then (b.1 + 1, b.2.1 ++ [asNo t (b.1 + 1)], plA (addF b.2.2 (legsT t false))) else bk0
def enterN (b : Bk) (t : Tr) : Int := if enterE b t = 0 then b.1 + 1 else 0
theorem enterE_ok {b : Bk} {t : Tr} : enterE b t = 0 ↔ rightB b = true ∧ numsT t = true ∧ b.2.1.length < 128 ∧ b.1 ≠ 1099511627776 ∧ addE b (legsT t false) = 0 := by
  unfold enterE
  by_cases h1 : rightB b = true
  · rw [if_pos h1]
    by_cases h2 : numsT t = true
    · rw [if_pos h2]
      by_cases h3 : 128 ≤ b.2.1.length
      · rw [if_pos h3]; exact ⟨fun h => absurd h (by decide), fun h => absurd h.2.2.1 (by omega)⟩
      · rw [if_neg h3]
        by_cases h4 : b.1 = 1099511627776
        · rw [if_pos h4]; exact ⟨fun h => absurd h (by decide), fun h => absurd h4 h.2.2.2.1⟩
        · rw [if_neg h4]; exact ⟨fun h => ⟨h1, h2, by omega, h4, h⟩, fun h => h.2.2.2.2⟩
    · rw [if_neg h2]; exact ⟨fun h => absurd h (by decide), fun h => absurd h.2.1 h2⟩
  · rw [if_neg h1]; exact ⟨fun h => absurd h (by decide), fun h => absurd h.1 h1⟩
theorem enterB_ok {b : Bk} {t : Tr} (h : enterE b t = 0) : enterB b t = (b.1 + 1, b.2.1 ++ [asNo t (b.1 + 1)], plA (addF b.2.2 (legsT t false))) := by unfold enterB; rw [if_pos h]
theorem enterN_ok {b : Bk} {t : Tr} (h : enterE b t = 0) : enterN b t = b.1 + 1 := by unfold enterN; rw [if_pos h]

/-- A trade with that number that is not off. -/
def liveT (no : Int) (t : Tr) : Bool := decide (t.1.1 = no) && !t.2
def theT (l : List Tr) (no : Int) : Tr := (l.find? (liveT no)).getD tr0
def offT (no : Int) (t : Tr) : Tr := if liveT no t then (t.1, true) else t
def offL (l : List Tr) (no : Int) : List Tr := l.map (offT no)
def cancelE (b : Bk) (no : Int) : Int := if rightB b then (if b.2.1.any (liveT no) then addE b (legsT (theT b.2.1 no) true) else 10) else 14
def cancelB (b : Bk) (no : Int) : Bk := if cancelE b no = 0 then (b.1, offL b.2.1 no, plA (addF b.2.2 (legsT (theT b.2.1 no) true))) else bk0
/-- Then enter the same at other terms. -/
def termsT (t : Tr) (q p : Int) : Tr := ((t.1.1, t.1.2.1, t.1.2.2.1, t.1.2.2.2.1, q, p), t.2)
def corrE (b : Bk) (no q p : Int) : Int := if cancelE b no = 0 then enterE (cancelB b no) (termsT (theT b.2.1 no) q p) else cancelE b no
def corrB (b : Bk) (no q p : Int) : Bk := if cancelE b no = 0 then enterB (cancelB b no) (termsT (theT b.2.1 no) q p) else bk0
def corrN (b : Bk) (no q p : Int) : Int := if cancelE b no = 0 then enterN (cancelB b no) (termsT (theT b.2.1 no) q p) else 0
def clearB (b : Bk) : Bk := (b.1, [], b.2.2)

/-! ### what is right stays so -/
theorem right_enter {b : Bk} {t : Tr} (h : enterE b t = 0) : rightB (enterB b t) = true := by
  obtain ⟨h1, h2, h3, h4, h5⟩ := enterE_ok.1 h
  rw [enterB_ok h]
  obtain ⟨g1, ⟨⟨g2, g3⟩, g4⟩, g5⟩ := (rightB_iff b).1 h1
  obtain ⟨_, a2, a3, a4⟩ := addE_ok.1 h5
  refine (rightB_iff _).2 ⟨by simp only; omega, ⟨⟨fun x hx => ?_, ?_⟩, ?_⟩, right_addP g5 a2 a3 a4⟩
  · simp only at hx ⊢
    rcases List.mem_append.1 hx with hx | hx
    · have := g2 x hx
      unfold okTr at this ⊢
      rw [Bool.and_eq_true, wi_iff] at this ⊢
      exact ⟨this.1, this.2.1, by omega⟩
    · obtain rfl := List.mem_singleton.1 hx
      unfold okTr
      rw [Bool.and_eq_true, wi_iff]
      refine ⟨by rw [nums_bare (t := asNo t (b.1 + 1)) (u := t) rfl]; exact h2, ?_⟩
      show 1 ≤ b.1 + 1 ∧ b.1 + 1 ≤ b.1 + 1
      omega
  · simp only
    unfold Rise
    rw [List.pairwise_append]
    refine ⟨g3, by simp, fun x hx y hy => ?_⟩
    obtain rfl := List.mem_singleton.1 hy
    have := g2 x hx
    unfold okTr at this
    rw [Bool.and_eq_true, wi_iff] at this
    show x.1.1 < b.1 + 1
    omega
  · simp only [List.length_append, List.length_cons, List.length_nil]; omega
theorem right_clear {b : Bk} (h : rightB b = true) : rightB (clearB b) = true := by
  obtain ⟨g1, ⟨⟨g2, g3⟩, g4⟩, g5⟩ := (rightB_iff b).1 h
  exact (rightB_iff _).2 ⟨g1, ⟨⟨fun x hx => absurd hx (by simp [clearB]), List.Pairwise.nil⟩, by simp [clearB]⟩, g5⟩
theorem right_zero : rightB bk0 = true := by decide +kernel

/-- Costs add up to 0, too; and few have been entered. -/
structure GB (b : Bk) (k : Nat) : Prop where
  right : rightB b = true
  cost : ∀ n : Int, 1 ≤ n → n ≤ 8 → cI b.2.2 n = 0
  next : b.1 ≤ k
theorem GB.poss {b : Bk} {k : Nat} (h : GB b k) : rightPs b.2.2 = true := ((rightB_iff b).1 h.right).2.2
theorem GB.zero : GB bk0 0 := ⟨right_zero, fun _ _ _ => rfl, by decide⟩
theorem GB.mono {b : Bk} {k m : Nat} (h : GB b k) (hm : k ≤ m) : GB b m := ⟨h.right, h.cost, by have := h.next; omega⟩
theorem cost_add {l legs : List Po} (hl : rightPs l = true) (hg : legs.all okLeg = true) (h1 : ∀ n : Int, 1 ≤ n → n ≤ 8 → cI l n = 0) (h2 : ∀ n, cI legs n = 0) : ∀ n : Int, 1 ≤ n → n ≤ 8 → cI (plA (addF l legs)) n = 0 := fun n n1 n2 => by
  rw [cI_add (right_keys hl) (leg_keys hg) n n1 n2, h1 n n1 n2, h2 n]; rfl
theorem GB.enter {b : Bk} {k : Nat} {t : Tr} (h : GB b k) (he : enterE b t = 0) : GB (enterB b t) (k + 1) := by
  obtain ⟨h1, h2, h3, h4, h5⟩ := enterE_ok.1 he
  obtain ⟨_, a2, a3, a4⟩ := addE_ok.1 h5
  refine ⟨right_enter he, ?_, ?_⟩
  · rw [enterB_ok he]; exact cost_add h.poss a2 h.cost fun n => cI_legs t false n
  · rw [enterB_ok he]; have := h.next; simp only; omega
theorem GB.clear {b : Bk} {k : Nat} (h : GB b k) : GB (clearB b) k := ⟨right_clear h.right, h.cost, h.next⟩

/-- The sums of an instrument's positions. -/
def bothOK (l : List Po) (n : Int) : Bool := (l.filter (isI n)).all okAm && (isMoney (qI l n) && isMoney (cI l n))
def bothQ (l : List Po) (n : Int) : Int := if bothOK l n then qI l n else 0
def bothC (l : List Po) (n : Int) : Int := if bothOK l n then cI l n else 0
theorem GB.both {b : Bk} {k : Nat} (h : GB b k) (n : Int) (n1 : 1 ≤ n) (n2 : n ≤ 8) : bothQ b.2.2 n = 0 ∧ bothC b.2.2 n = 0 := by
  unfold bothQ bothC
  rw [((rightPs_iff _).1 h.poss).2.2 n n1 n2, h.cost n n1 n2]
  constructor <;> split <;> rfl

/-! ### there and back -/
theorem fits_congr {f g : Ky → Int × Int} (h : ∀ k, okK k = true → f k = g k) : fits f = fits g := by
  rw [Bool.eq_iff_iff, fits_iff, fits_iff]
  constructor
  · intro h2 k hk; rw [← h k hk]; exact h2 k hk
  · intro h2 k hk; rw [h k hk]; exact h2 k hk
end Go.Proofs.Ytahioajpmlochaa.NumK
namespace Go.Proofs.Ytahioajpmlochaa.NumK
open Go.RowKit
set_option linter.unusedVariables false

/-! ### parts -/
/-! ### entered one behind the other -/
def entS (b : Bk) (t : Tr) : Bk := if enterE b t = 0 then enterB b t else b
def entL (l : List Tr) : Bk := l.foldl entS bk0
def legsOf (l : List Tr) : List Po := (l.filter numsT).flatMap fun t => legsT t false
theorem legsOf_app (l m : List Tr) : legsOf (l ++ m) = legsOf l ++ legsOf m := by unfold legsOf; rw [List.filter_append, List.flatMap_append]
theorem legsOf_one {t : Tr} (h : numsT t = true) : legsOf [t] = legsT t false := by unfold legsOf; simp [h]
theorem legsOf_no {t : Tr} (h : numsT t = false) : legsOf [t] = [] := by unfold legsOf; simp [h]
def cntT (l : List Tr) : Nat := (l.filter numsT).length
theorem cnt_app (l m : List Tr) : cntT (l ++ m) = cntT l + cntT m := by unfold cntT; rw [List.filter_append, List.length_append]
theorem small_legs : ∀ (l : List Tr) (k : Ky), wm (qK (legsOf l) k) (l.length * 1048576) ∧ wm (cK (legsOf l) k) (l.length * 1125899906842624)
  | [], k => by unfold wm; exact ⟨by simp [legsOf, qK_nil], by simp [legsOf, cK_nil]⟩
  | t :: l, k => by
    obtain ⟨h1, h2⟩ := small_legs l k
    have e : legsOf (t :: l) = legsOf [t] ++ legsOf l := legsOf_app [t] l
    rw [e, qK_app, cK_app, List.length_cons]
    unfold wm at *
    by_cases h : numsT t = true
    · obtain ⟨s1, s2⟩ := qK_small h false k
      unfold wm at s1 s2
      rw [legsOf_one h]
      omega
    · rw [legsOf_no (by simpa using h), qK_nil, cK_nil]
      omega
/-- What stands behind them. -/
structure EntP (l : List Tr) (b : Bk) : Prop where
  right : rightB b = true
  next : b.1 = cntT l
  len : b.2.1.length = cntT l
  poss : b.2.2 = plA (sumK2 (legsOf l))
theorem EntP.nil : EntP [] bk0 := ⟨right_zero, rfl, rfl, by decide +kernel⟩
theorem ent_add (l m : List Po) : ∀ k, okK k = true → addF (plA (sumK2 l)) m k = sumK2 (l ++ m) k := fun k hk => by
  have := sum_pl (sumK2 l) k hk
  unfold sumK2 at this ⊢
  simp only [Prod.mk.injEq] at this
  unfold addF
  rw [qK_app, cK_app, this.1, this.2]
theorem fits_small {f : Ky → Int × Int} (h : ∀ k, wm (f k).1 (1000 * 1048576) ∧ wm (f k).2 (1000 * 1125899906842624)) : fits f = true := (fits_iff f).2 fun k _ => by
  obtain ⟨h1, h2⟩ := h k
  unfold wm at h1 h2
  rw [okQ_iff, isMoney_iff]
  omega
theorem EntP.may {l : List Tr} {b : Bk} (h : EntP l b) (hl : l.length ≤ 400) {t : Tr} (ht : numsT t = true) (hc : cntT l < 128) : enterE b t = 0 := by
  have hn := h.next
  have hlen := h.len
  refine enterE_ok.2 ⟨h.right, ht, by omega, by omega, addE_ok.2 ⟨h.right, legs_ok ht false, legs_flatI t false, ?_⟩⟩
  rw [h.poss, fits_congr (ent_add _ _)]
  refine fits_small fun k => ?_
  obtain ⟨a1, a2⟩ := small_legs l k
  obtain ⟨b1, b2⟩ := qK_small ht false k
  unfold sumK2
  simp only
  rw [qK_app, cK_app]
  unfold wm at *
  omega
theorem EntP.step {l : List Tr} {b : Bk} (h : EntP l b) {t : Tr} (he : enterE b t = 0) : EntP (l ++ [t]) (enterB b t) := by
  obtain ⟨h1, h2, h3, h4, h5⟩ := enterE_ok.1 he
  have hr := right_enter he
  rw [enterB_ok he] at hr ⊢
  have e1 : cntT [t] = 1 := by unfold cntT; simp [h2]
  refine ⟨hr, ?_, ?_, ?_⟩
  · show b.1 + 1 = _
    rw [h.next, cnt_app, e1]; omega
  · show (b.2.1 ++ [_]).length = _
    rw [List.length_append, h.len, cnt_app, e1]; rfl
  · show plA _ = _
    rw [legsOf_app, legsOf_one h2, h.poss]
    exact pl_congr (ent_add _ _)
theorem EntP.skip {l : List Tr} {b : Bk} (h : EntP l b) {t : Tr} (ht : numsT t = false) : EntP (l ++ [t]) b := by
  have e1 : cntT [t] = 0 := by unfold cntT; simp [ht]
  refine ⟨h.right, by rw [h.next, cnt_app, e1]; omega, by rw [h.len, cnt_app, e1, Nat.add_zero], by rw [h.poss, legsOf_app, legsOf_no ht, List.append_nil]⟩
/-! ### a book that is full -/
structure FullP (t : Tr) (i : Nat) (b : Bk) : Prop where
  ent : EntP (List.replicate i t) b
  trades : b.2.1 = (List.range i).map fun j : Nat => asNo t ((j : Int) + 1)
theorem FullP.zero (t : Tr) : FullP t 0 bk0 := ⟨EntP.nil, rfl⟩
theorem cnt_rep {t : Tr} (ht : numsT t = true) (i : Nat) : cntT (List.replicate i t) = i := by unfold cntT; rw [List.filter_replicate, ht]; simp
theorem FullP.may {t : Tr} {i : Nat} {b : Bk} (h : FullP t i b) (ht : numsT t = true) (hi : i < 128) : enterE b t = 0 ∧ enterN b t = (i : Int) + 1 ∧ FullP t (i + 1) (enterB b t) := by
  have he := h.ent.may (by rw [List.length_replicate]; omega) ht (by rw [cnt_rep ht]; exact hi)
  have hn := h.ent.next
  rw [cnt_rep ht] at hn
  refine ⟨he, by rw [enterN_ok he, hn], ?_, ?_⟩
  · have := h.ent.step he
    rw [show List.replicate (i + 1) t = List.replicate i t ++ [t] from List.replicate_succ']
    exact this
  · rw [enterB_ok he]
    show b.2.1 ++ [asNo t (b.1 + 1)] = _
    rw [h.trades, hn, List.range_succ, List.map_append]; rfl
theorem FullP.full {t : Tr} {b : Bk} (h : FullP t 128 b) (ht : numsT t = true) (u : Tr) (hu : numsT u = true) : enterE b u = 9 := by
  have hl := h.ent.len
  rw [cnt_rep ht] at hl
  unfold enterE
  rw [if_pos h.ent.right, if_pos hu, if_pos (by omega)]
theorem FullP.clear {t : Tr} {b : Bk} (h : FullP t 128 b) (ht : numsT t = true) : enterE (clearB b) t = 0 ∧ enterN (clearB b) t = 129 ∧ (enterB (clearB b) t).2.1.length = 1 := by
  have hn := h.ent.next
  rw [cnt_rep ht] at hn
  have hr := right_clear h.ent.right
  have he : enterE (clearB b) t = 0 := by
    refine enterE_ok.2 ⟨hr, ht, by simp [clearB], by show b.1 ≠ _; omega, addE_ok.2 ⟨hr, legs_ok ht false, legs_flatI t false, ?_⟩⟩
    show fits (addF b.2.2 _) = true
    rw [h.ent.poss, fits_congr (ent_add _ _)]
    refine fits_small fun k => ?_
    obtain ⟨a1, a2⟩ := small_legs (List.replicate 128 t) k
    obtain ⟨b1, b2⟩ := qK_small ht false k
    rw [List.length_replicate] at a1 a2
    unfold sumK2
    simp only
    rw [qK_app, cK_app]
    unfold wm at *
    omega
  refine ⟨he, ?_, ?_⟩
  · rw [enterN_ok he]; show b.1 + 1 = 129; omega
  · rw [enterB_ok he]; rfl
end Go.Proofs.Ytahioajpmlochaa.NumK
namespace Go.Proofs.Ytahioajpmlochaa.NumK
open Go.RowKit
set_option linter.unusedVariables false

def absA (n : Int) : Int := max n (-n)
/-- On the other side of q? -/
def oppB (q y : Int) : Bool := (decide (0 < q) && decide (y < 0)) || (decide (q < 0) && decide (0 < y))
def othP (l : List Po) (n q : Int) : List Po := l.filter fun x => decide (x.2.1 = n) && oppB q x.2.2.1
def othW (l : List Po) (n q : Int) : List Int := (othP l n q).map fun x => absA x.2.2.1
def posS (l : List Po) (n : Int) : Int := (l.map fun x => if x.2.1 = n then max x.2.2.1 0 else 0).sum
def negS (l : List Po) (n : Int) : Int := (l.map fun x => if x.2.1 = n then max (-x.2.2.1) 0 else 0).sum
/-! ### legs -/
/-- Legs of fills: long: s = 1, short: s = -1. -/
def legsF (k : Ky) (s : Int) (fs : List Fi) : List Po := fs.flatMap fun f => [(f.1, k.2, s * f.2.1, s * (f.2.1 * f.2.2)), (k.1, k.2, -(s * f.2.1), -(s * (f.2.1 * f.2.2)))]
def filW (fs : List Fi) (w : Int) : Int := filS (fs.filter fun f => decide (f.1 = w))
theorem legsF_cons (k : Ky) (s : Int) (f : Fi) (fs : List Fi) : legsF k s (f :: fs) = (f.1, k.2, s * f.2.1, s * (f.2.1 * f.2.2)) :: (k.1, k.2, -(s * f.2.1), -(s * (f.2.1 * f.2.2))) :: legsF k s fs := by
  unfold legsF; rw [List.flatMap_cons]; rfl
/-! ### what is torn up -/
/-- The fills: of those on the other side, each that bears something. -/
def tornF : List Po → List Int → Int → List Fi
  | x :: xs, p :: ps, c => if 0 < p then (x.1, p, c) :: tornF xs ps c else tornF xs ps c
  | _, _, _ => []
structure Borne (xs : List Po) (ps : List Int) (m : Int) : Prop where
  len : ps.length = xs.length
  low : ∀ i, i < xs.length → 0 ≤ ps.getD i 0 ∧ ps.getD i 0 ≤ absA (xs.getD i po0).2.2.1
  sum : ps.sum = m
theorem Borne.tail {x : Po} {xs : List Po} {p : Int} {ps : List Int} {m : Int} (h : Borne (x :: xs) (p :: ps) m) : (0 ≤ p ∧ p ≤ absA x.2.2.1) ∧ Borne xs ps (m - p) := by
  refine ⟨h.low 0 (by simp), ⟨by have := h.len; simpa using this, fun i hi => by simpa using h.low (i + 1) (by simp; omega), ?_⟩⟩
  have := h.sum
  rw [List.sum_cons] at this
  omega
/-- What those of a number have. -/
def hasW (xs : List Po) (w : Int) : Int := (xs.map fun x => if x.1 = w then absA x.2.2.1 else 0).sum
end Go.Proofs.Ytahioajpmlochaa.NumK
namespace Go.Proofs.Ytahioajpmlochaa.NumK
open Go.RowKit

set_option maxHeartbeats 400000 in
theorem right_any (A : Option Addr) (n c : Nat) (zs : List Int) (w : World) (hz : Ints w A n zs) (hn : n ≤ 9223372036854775807) :
    Calls Try.prog 39 #[.slice A n c] w fun e w' => e = .returned (.bool (zs.all isMoney)) ∧ w = w' := by
  have HZ : Hid (Ints w A n zs) := hz
  clear hz
  go_enter Try.func39, Try.ntmps39
  go_wp2
  go_loop [7] (fun i => ∃ k : Nat, k ≤ n ∧ i = .int .i64 k ∧ Hid ((zs.take k).all isMoney = true)) (fun i => n - (intOf i).toNat)
  case atStart => exact ⟨0, Nat.zero_le _, rfl, by simp [Hid]⟩
  case round =>
    obtain ⟨k, hk, rfl, HK⟩ := hrel
    by_cases hlt : k < n
    · obtain ⟨b, o, rfl, _, hc⟩ := HZ.out.2 (by omega)
      have hcell := hc k hlt
      have hl := HZ.out.1
      have hs := all_take_succ zs k (by omega)
      have HS : Hid ((zs.take (k + 1)).all isMoney = isMoney (zs.getD k 0)) := by rw [hs, HK.out]; simp [Hid]
      clear hs hc hl
      generalize hy : zs.getD k 0 = y at *
      have HY : Hid (zs.getD k 0 = y) := hy
      clear hy
      by_cases h1 : y < -4611686018427387904
      · go_wp2
        go_ret
        exact ⟨ret_b (all_false zs k (by have := HZ.out.1; omega) y HY.out (by omega)), rfl⟩
      · by_cases h2 : 4611686018427387904 < y
        · go_wp2
          go_ret
          exact ⟨ret_b (all_false zs k (by have := HZ.out.1; omega) y HY.out (by omega)), rfl⟩
        · go_wp2
          go_round
          case rel => exact ⟨k + 1, by omega, by go_num, HS.out.trans ((isMoney_iff y).2 ⟨by omega, by omega⟩)⟩
          case measure => simp [intOf]; omega
    · have : k = n := by omega
      subst this
      go_wp2
      go_ret
      have h1 := HK.out
      rw [List.take_of_length_le (by have := HZ.out.1; omega)] at h1
      exact ⟨ret_b h1.symm, rfl⟩

end Go.Proofs.Ytahioajpmlochaa.NumK
namespace Go.Proofs.Ytahioajpmlochaa.NumK
open Go.RowKit

theorem maskN (a : Nat) (ha : a < 18446744073709551616) : bits .and .u64 (a : Int) 4294967295 = ((a % 4294967296 : Nat) : Int) := by
  have h := bits_and_u64_nat a 4294967295 ha (by omega)
  have e : a &&& 4294967295 = a % 4294967296 := Nat.and_two_pow_sub_one_eq_mod a 32
  rw [e] at h
  exact h
theorem divN (a : Nat) : (a : Int) / 4294967296 = ((a / 4294967296 : Nat) : Int) := by omega
theorem mulN (a b : Nat) : (a : Int) * (b : Int) = ((a * b : Nat) : Int) := (Int.natCast_mul a b).symm
theorem addN (a b : Nat) : (a : Int) + (b : Int) = ((a + b : Nat) : Int) := (Int.natCast_add a b).symm
theorem wrapN (a : Nat) (ha : a < 18446744073709551616) : IntKind.u64.wrap (a : Int) = (a : Int) := by rw [IntKind.wrap_u64]; omega
theorem wrapM (a : Nat) : IntKind.u64.wrap (a : Int) = ((a % 18446744073709551616 : Nat) : Int) := by rw [IntKind.wrap_u64]; omega

set_option maxHeartbeats 1000000 in
theorem mul64_any (x y : Nat) (hx : x < 18446744073709551616) (hy : y < 18446744073709551616) (w : World) :
    Calls Try.prog 40 #[.int .u64 x, .int .u64 y] w fun e w' => e = .returned (.tuple #[.int .u64 ((x * y / 18446744073709551616 : Nat) : Int), .int .u64 ((x * y % 18446744073709551616 : Nat) : Int)]) ∧ w = w' := by
  obtain ⟨bd, bt, bw, hhi⟩ := Lib.mul64_hi x y hx hy
  have ba := Lib.half_mul_le (a := x / 4294967296) (b := y / 4294967296) (by omega) (by omega)
  have bb := Lib.half_mul_le (a := x / 4294967296) (b := y % 4294967296) (by omega) (by omega)
  have bc := Lib.half_mul_le (a := x % 4294967296) (b := y / 4294967296) (by omega) (by omega)
  have ba' : x / 4294967296 * (y / 4294967296) < 18446744073709551616 := by omega
  have bb' : x / 4294967296 * (y % 4294967296) < 18446744073709551616 := by omega
  have bc' : x % 4294967296 * (y / 4294967296) < 18446744073709551616 := by omega
  have bh1 : x / 4294967296 * (y / 4294967296) + (x / 4294967296 * (y % 4294967296) + x % 4294967296 * (y % 4294967296) / 4294967296) / 4294967296 < 18446744073709551616 := by omega
  have bh : x / 4294967296 * (y / 4294967296) + (x / 4294967296 * (y % 4294967296) + x % 4294967296 * (y % 4294967296) / 4294967296) / 4294967296 + ((x / 4294967296 * (y % 4294967296) + x % 4294967296 * (y % 4294967296) / 4294967296) % 4294967296 + x % 4294967296 * (y / 4294967296)) / 4294967296 < 18446744073709551616 := by omega
  go_enter Try.func40, Try.ntmps40
  go_wp2
  simp only [maskN x hx, maskN y hy, divN, mulN, addN, wrapN _ bd, wrapN _ bb', wrapN _ bt, maskN _ bt, wrapN _ bc', wrapN _ bw, wrapN _ ba', wrapN _ bh1, wrapN _ bh, wrapM (x * y)]
  rw [hhi]
  go_ret2
  exact ⟨rfl, rfl⟩

end Go.Proofs.Ytahioajpmlochaa.NumK
namespace Go.Proofs.Ytahioajpmlochaa.NumK
open Go.RowKit

/-! ### products -/
theorem size_any (n : Int) (w : World) (h : isMoney n = true) :
    Calls Try.prog 41 #[.int .i64 n] w fun e w' => e = .returned (.int .u64 (n.natAbs : Int)) ∧ w = w' := by
  rw [isMoney_iff] at h
  obtain ⟨h1, h2⟩ := h
  by_cases c : n < 0
  · obtain ⟨m, rfl⟩ : ∃ m : Int, n = -m := ⟨-n, by omega⟩
    have e : ((-m).natAbs : Int) = m := by omega
    have E := Lib.hid e
    clear e
    go_enter Try.func41, Try.ntmps41
    go_wp2
    go_ret
    exact ⟨ret_i E.out.symm, rfl⟩
  · have e : (n.natAbs : Int) = n := by omega
    have E := Lib.hid e
    clear e
    go_enter Try.func41, Try.ntmps41
    go_wp2
    go_ret
    exact ⟨ret_i E.out.symm, rfl⟩

def mulV (a b : Int) : Int := if [a, b].all isMoney then capV (a * b) else 0
def mulE (a b : Int) : Int := if [a, b].all isMoney then capE (a * b) else 3
theorem mulV_in {a b : Int} (h : [a, b].all isMoney = true) : mulV a b = capV (a * b) := by simp only [mulV, h, if_true]
theorem mulE_in {a b : Int} (h : [a, b].all isMoney = true) : mulE a b = capE (a * b) := by simp only [mulE, h, if_true]
theorem mulV_out {a b : Int} (h : [a, b].all isMoney = false) : mulV a b = 0 := by unfold mulV; rw [h]; rfl
theorem mulE_out {a b : Int} (h : [a, b].all isMoney = false) : mulE a b = 3 := by unfold mulE; rw [h]; rfl

theorem times_wrong (a b : Int) (w : World) (h : [a, b].all isMoney = false) :
    Calls Try.prog 32 #[.int .i64 a, .int .i64 b] w fun e w' => e = .returned (.tuple #[.int .i64 (mulV a b), .int .i64 (mulE a b)]) ∧ Grew w w' := by
  have C := (right_any (some ⟨w.heap.size, 0, none⟩) 2 2 [a, b] _ (ints2 w a b 3) (by omega))
  rw [h] at C
  have H := Lib.hid h
  clear h
  go_enter Try.func32, Try.ntmps32
  go_wp2_with (go_at_call 39; ((with_reducible refine C.mono ?_); rintro e w' ⟨rfl, rfl⟩))
  go_ret2
  exact ⟨ret2 (mulV_out H.out).symm (mulE_out H.out).symm, grew_alloc _ _ _⟩

set_option maxHeartbeats 1000000 in
theorem times_right (a b : Int) (w : World) (h : [a, b].all isMoney = true) :
    Calls Try.prog 32 #[.int .i64 a, .int .i64 b] w fun e w' => e = .returned (.tuple #[.int .i64 (mulV a b), .int .i64 (mulE a b)]) ∧ Grew w w' := by
  have C := (right_any (some ⟨w.heap.size, 0, none⟩) 2 2 [a, b] _ (ints2 w a b 3) (by omega))
  rw [h] at C
  have E1 := Lib.hid (mulV_in h)
  have E2 := Lib.hid (mulE_in h)
  have ha : isMoney a = true := by simp only [List.all_cons, Bool.and_eq_true] at h; exact h.1
  have hb : isMoney b = true := by simp only [List.all_cons, Bool.and_eq_true] at h; exact h.2.1
  have A := Lib.hid ha
  have B := Lib.hid hb
  rw [isMoney_iff] at ha hb
  have hp : ((a * b).natAbs) = a.natAbs * b.natAbs := Int.natAbs_mul a b
  have hs : (a < 0 ↔ b < 0) → 0 ≤ a * b := fun h => by
    by_cases c : a < 0
    · exact Int.mul_nonneg_of_nonpos_of_nonpos (by omega) (by omega)
    · exact Int.mul_nonneg (by omega) (by omega)
  have hn : (a < 0 ↔ ¬ b < 0) → a * b ≤ 0 := fun h => by
    by_cases c : a < 0
    · exact Int.mul_nonpos_of_nonpos_of_nonneg (by omega) (by omega)
    · exact Int.mul_nonpos_of_nonneg_of_nonpos (by omega) (by omega)
  have HS := Lib.hid hs
  have HN := Lib.hid hn
  have HP := Lib.hid hp
  clear h hs hn hp
  have M := mul64_any a.natAbs b.natAbs (by omega) (by omega)
  generalize hP : a.natAbs * b.natAbs = P at *
  clear hP ha hb
  have HI : Hid (isMoney (a * b) = decide (P ≤ 4611686018427387904)) := by
    show isMoney (a * b) = _
    rw [Bool.eq_iff_iff, isMoney_iff, decide_eq_true_iff]
    have := HP.out
    omega
  by_cases c1 : (P / 18446744073709551616 : Nat) = 0
  · have e1 : ((P / 18446744073709551616 : Nat) : Int) = 0 := by omega
    have e2 : ((P % 18446744073709551616 : Nat) : Int) = (P : Int) := by omega
    have M := M (w.alloc (.cells #[.int .i64 a, .int .i64 b] 3))
    rw [e1, e2] at M
    clear e1 e2 c1
    by_cases c2 : P ≤ 4611686018427387904
    · have hI : isMoney (a * b) = true := by rw [HI.out]; simpa using c2
      have HM := Lib.hid hI
      clear hI
      have g : (P : Int) ≤ 4611686018427387904 := by omega
      by_cases s1 : a < 0 <;> by_cases s2 : b < 0
      · have d1 : decide (a < 0) = true := by simpa using s1
        have d2 : decide (b < 0) = true := by simpa using s2
        go_enter Try.func32, Try.ntmps32
        go_wp2_with (first | (go_at_call 39; ((with_reducible refine C.mono ?_); rintro e w' ⟨rfl, rfl⟩)) | (go_at_call 41; ((with_reducible refine (size_any _ _ A.out).mono ?_); rintro e w' ⟨rfl, rfl⟩)) | (go_at_call 41; ((with_reducible refine (size_any _ _ B.out).mono ?_); rintro e w' ⟨rfl, rfl⟩)) | (go_at_call 40; ((with_reducible refine M.mono ?_); rintro e w' ⟨rfl, rfl⟩)))
        go_ret2
        have hp := HP.out
        have hs := HS.out (by omega)
        exact ⟨ret2 (by rw [E1.out, capV_in HM.out]; omega) (by rw [E2.out, capE_in HM.out]), grew_alloc _ _ _⟩
      · have d1 : decide (a < 0) = true := by simpa using s1
        have d2 : decide (b < 0) = false := by simpa using s2
        go_enter Try.func32, Try.ntmps32
        go_wp2_with (first | (go_at_call 39; ((with_reducible refine C.mono ?_); rintro e w' ⟨rfl, rfl⟩)) | (go_at_call 41; ((with_reducible refine (size_any _ _ A.out).mono ?_); rintro e w' ⟨rfl, rfl⟩)) | (go_at_call 41; ((with_reducible refine (size_any _ _ B.out).mono ?_); rintro e w' ⟨rfl, rfl⟩)) | (go_at_call 40; ((with_reducible refine M.mono ?_); rintro e w' ⟨rfl, rfl⟩)))
        go_ret2
        have hp := HP.out
        have hs := HN.out (by omega)
        exact ⟨ret2 (by rw [E1.out, capV_in HM.out]; omega) (by rw [E2.out, capE_in HM.out]), grew_alloc _ _ _⟩
      · have d1 : decide (a < 0) = false := by simpa using s1
        have d2 : decide (b < 0) = true := by simpa using s2
        go_enter Try.func32, Try.ntmps32
        go_wp2_with (first | (go_at_call 39; ((with_reducible refine C.mono ?_); rintro e w' ⟨rfl, rfl⟩)) | (go_at_call 41; ((with_reducible refine (size_any _ _ A.out).mono ?_); rintro e w' ⟨rfl, rfl⟩)) | (go_at_call 41; ((with_reducible refine (size_any _ _ B.out).mono ?_); rintro e w' ⟨rfl, rfl⟩)) | (go_at_call 40; ((with_reducible refine M.mono ?_); rintro e w' ⟨rfl, rfl⟩)))
        go_ret2
        have hp := HP.out
        have hs := HN.out (by omega)
        exact ⟨ret2 (by rw [E1.out, capV_in HM.out]; omega) (by rw [E2.out, capE_in HM.out]), grew_alloc _ _ _⟩
      · have d1 : decide (a < 0) = false := by simpa using s1
        have d2 : decide (b < 0) = false := by simpa using s2
        go_enter Try.func32, Try.ntmps32
        go_wp2_with (first | (go_at_call 39; ((with_reducible refine C.mono ?_); rintro e w' ⟨rfl, rfl⟩)) | (go_at_call 41; ((with_reducible refine (size_any _ _ A.out).mono ?_); rintro e w' ⟨rfl, rfl⟩)) | (go_at_call 41; ((with_reducible refine (size_any _ _ B.out).mono ?_); rintro e w' ⟨rfl, rfl⟩)) | (go_at_call 40; ((with_reducible refine M.mono ?_); rintro e w' ⟨rfl, rfl⟩)))
        go_ret2
        have hp := HP.out
        have hs := HS.out (by omega)
        exact ⟨ret2 (by rw [E1.out, capV_in HM.out]; omega) (by rw [E2.out, capE_in HM.out]), grew_alloc _ _ _⟩
    · have hI : isMoney (a * b) = false := by rw [HI.out]; simpa using c2
      have HM := Lib.hid hI
      clear hI
      have g : (4611686018427387904 : Int) < (P : Int) := by omega
      go_enter Try.func32, Try.ntmps32
      go_wp2_with (first | (go_at_call 39; ((with_reducible refine C.mono ?_); rintro e w' ⟨rfl, rfl⟩)) | (go_at_call 41; ((with_reducible refine (size_any _ _ A.out).mono ?_); rintro e w' ⟨rfl, rfl⟩)) | (go_at_call 41; ((with_reducible refine (size_any _ _ B.out).mono ?_); rintro e w' ⟨rfl, rfl⟩)) | (go_at_call 40; ((with_reducible refine M.mono ?_); rintro e w' ⟨rfl, rfl⟩)))
      go_ret2
      exact ⟨ret2 (by rw [E1.out, capV_out HM.out]) (by rw [E2.out, capE_out HM.out]), grew_alloc _ _ _⟩
  · have hI : isMoney (a * b) = false := by rw [HI.out]; simp; omega
    have HM := Lib.hid hI
    clear hI
    have M := M (w.alloc (.cells #[.int .i64 a, .int .i64 b] 3))
    have g : (((P / 18446744073709551616 : Nat) : Int) != 0) = true := by
      have : ((P / 18446744073709551616 : Nat) : Int) ≠ 0 := by omega
      simpa using this
    generalize ((P / 18446744073709551616 : Nat) : Int) = Hi at *
    generalize ((P % 18446744073709551616 : Nat) : Int) = Lo at *
    go_enter Try.func32, Try.ntmps32
    go_wp2_with (first | (go_at_call 39; ((with_reducible refine C.mono ?_); rintro e w' ⟨rfl, rfl⟩)) | (go_at_call 41; ((with_reducible refine (size_any _ _ A.out).mono ?_); rintro e w' ⟨rfl, rfl⟩)) | (go_at_call 41; ((with_reducible refine (size_any _ _ B.out).mono ?_); rintro e w' ⟨rfl, rfl⟩)) | (go_at_call 40; ((with_reducible refine M.mono ?_); rintro e w' ⟨rfl, rfl⟩)))
    go_ret2
    exact ⟨ret2 (by rw [E1.out, capV_out HM.out]) (by rw [E2.out, capE_out HM.out]), grew_alloc _ _ _⟩

theorem times_any (a b : Int) (w : World) :
    Calls Try.prog 32 #[.int .i64 a, .int .i64 b] w fun e w' => e = .returned (.tuple #[.int .i64 (mulV a b), .int .i64 (mulE a b)]) ∧ Grew w w' := by
  by_cases h : [a, b].all isMoney = true
  · exact times_right a b w h
  · exact times_wrong a b w (by simpa using h)

end Go.Proofs.Ytahioajpmlochaa.NumK
namespace Go.Proofs.Ytahioajpmlochaa.NumK
open Go.RowKit
set_option linter.unusedVariables false

end Go.Proofs.Ytahioajpmlochaa.NumK
namespace Go.Proofs.Ytahioajpmlochaa.NumK
open Go.RowKit

/-! ### numbers of 128 bits, by their halves -/
def hi64 (x : Int) : Int := x / 18446744073709551616
def lo64 (x : Int) : Int := x % 18446744073709551616
theorem w_eq (x : Int) : hi64 x * 18446744073709551616 + lo64 x = x := by unfold hi64 lo64; omega
theorem lo_bounds (x : Int) : 0 ≤ lo64 x ∧ lo64 x < 18446744073709551616 := by unfold lo64; omega
theorem w_unique (x h l : Int) (e : h * 18446744073709551616 + l = x) (h0 : 0 ≤ l) (h1 : l < 18446744073709551616) : hi64 x = h ∧ lo64 x = l := by unfold hi64 lo64; omega
def isWide (x : Int) : Bool := decide (-170141183460469231731687303715884105728 ≤ x) && decide (x < 170141183460469231731687303715884105728)
theorem isWide_iff (x : Int) : isWide x = true ↔ -170141183460469231731687303715884105728 ≤ x ∧ x < 170141183460469231731687303715884105728 := by simp [isWide]
theorem hi_bounds (x : Int) (h : isWide x = true) : -9223372036854775808 ≤ hi64 x ∧ hi64 x ≤ 9223372036854775807 := by
  rw [isWide_iff] at h; unfold hi64; omega

theorem ret_wv {x a b : Int} (h1 : a = hi64 x) (h2 : b = lo64 x) : Ending.returned (.agg #[.int .i64 a, .int .u64 b]) = .returned (.agg #[.int .i64 (hi64 (x)), .int .u64 (lo64 (x))]) := by rw [h1, h2]
theorem not_u64 (y : Int) (h0 : 0 ≤ y) (h1 : y < 18446744073709551616) : bits .xor .u64 IntKind.u64.max y = 18446744073709551615 - y := by
  obtain ⟨m, rfl⟩ := Int.eq_ofNat_of_zero_le h0
  have e1 : (BitVec.ofInt 64 IntKind.u64.max) = BitVec.allOnes 64 := by decide
  have e2 : (BitVec.ofInt 64 (m : Int)).toNat = m := by
    rw [BitVec.ofInt_natCast, BitVec.toNat_ofNat]; exact Nat.mod_eq_of_lt (by omega)
  show IntKind.u64.wrap ((BitVec.ofInt 64 IntKind.u64.max ^^^ BitVec.ofInt 64 (m : Int)).toNat : Int) = _
  rw [e1, BitVec.xor_comm, BitVec.xor_allOnes, BitVec.toNat_not, e2, IntKind.wrap_u64]
  omega
/-- The block that a call laid for its result stands as it was behind a callee that keeps what was there. -/
theorem own_cells {w w1 : World} {v0 v1 : Value} {t t2 : TypeId} {cs : Array Value} (h : Grew ((w.alloc (.cells #[v0, v1] t)).alloc (.cells cs t2)) w1) :
    w1.cell? ⟨w.heap.size, 0, none⟩ = some v0 ∧ w1.cell? ⟨w.heap.size, 1, none⟩ = some v1 ∧ w1.frozen? ⟨w.heap.size, 0, none⟩ = false ∧ w1.frozen? ⟨w.heap.size, 1, none⟩ = false ∧ w.heap.size < w1.heap.size := by
  have hs := h.size
  have hl : w.heap.size < ((w.alloc (.cells #[v0, v1] t)).alloc (.cells cs t2)).heap.size := by simp; omega
  exact ⟨(Below.cell h (p := ⟨w.heap.size, 0, none⟩) hl).trans (by simp), (Below.cell h (p := ⟨w.heap.size, 1, none⟩) hl).trans (by simp),
    (Below.frozen h (p := ⟨w.heap.size, 0, none⟩) hl).trans (by simp), (Below.frozen h (p := ⟨w.heap.size, 1, none⟩) hl).trans (by simp), by omega⟩
theorem own_grew {w w1 : World} {c1 c2 : Array Value} {t1 t2 : TypeId} (h : Grew ((w.alloc (.cells c1 t1)).alloc (.cells c2 t2)) w1) : Grew w w1 := grew_trans (grew_trans (grew_alloc _ _ _) (grew_alloc _ _ _)) h
theorem times_arith (a b : Int) (ha : -9223372036854775808 ≤ a ∧ a ≤ 9223372036854775807) (hb : -9223372036854775808 ≤ b ∧ b ≤ 9223372036854775807) :
    a.natAbs * b.natAbs ≤ 85070591730234615865843651857942052864 ∧ ((a < 0 ↔ b < 0) → a * b = (a.natAbs * b.natAbs : Nat)) ∧ ((a < 0 ↔ ¬ b < 0) → a * b = -(a.natAbs * b.natAbs : Nat)) := by
  have hp : ((a * b).natAbs) = a.natAbs * b.natAbs := Int.natAbs_mul a b
  have hs : (a < 0 ↔ b < 0) → 0 ≤ a * b := fun h => by
    by_cases c : a < 0
    · exact Int.mul_nonneg_of_nonpos_of_nonpos (by omega) (by omega)
    · exact Int.mul_nonneg (by omega) (by omega)
  have hn : (a < 0 ↔ ¬ b < 0) → a * b ≤ 0 := fun h => by
    by_cases c : a < 0
    · exact Int.mul_nonpos_of_nonpos_of_nonneg (by omega) (by omega)
    · exact Int.mul_nonpos_of_nonneg_of_nonpos (by omega) (by omega)
  have hm : a.natAbs * b.natAbs ≤ 9223372036854775808 * 9223372036854775808 := Nat.mul_le_mul (by omega) (by omega)
  generalize a.natAbs * b.natAbs = P at *
  generalize a * b = p at *
  exact ⟨by omega, fun h => by have := hs h; omega, fun h => by have := hn h; omega⟩
def intV (x : Int) : Int := if isMoney x then x else 0
theorem intV_in {x : Int} (h : isMoney x = true) : intV x = x := by simp [intV, h]
theorem intV_out {x : Int} (h : isMoney x = false) : intV x = 0 := by simp [intV, h]
theorem ret_vb {a a' : Int} {b b' : Bool} (h1 : a = a') (h2 : b = b') : Ending.returned (.tuple #[.int .i64 a, .bool b]) = .returned (.tuple #[.int .i64 a', .bool b']) := by rw [h1, h2]
theorem keep2 {w w1 w2 : World} {v0 v1 : Value} (g : Grew w1 w2) (h1 : w1.cell? ⟨w.heap.size, 0, none⟩ = some v0) (h2 : w1.cell? ⟨w.heap.size, 1, none⟩ = some v1) (h3 : w.heap.size < w1.heap.size) (h4 : Grew w w1) :
    w2.cell? ⟨w.heap.size, 0, none⟩ = some v0 ∧ w2.cell? ⟨w.heap.size, 1, none⟩ = some v1 ∧ w.heap.size < w2.heap.size ∧ Grew w w2 :=
  ⟨(grew_cell g (p := ⟨w.heap.size, 0, none⟩) h3).trans h1, (grew_cell g (p := ⟨w.heap.size, 1, none⟩) h3).trans h2, Nat.lt_of_lt_of_le h3 g.size, grew_trans h4 g⟩
def wsV (x : Int) : Int := if isWide x then x else 0
end Go.Proofs.Ytahioajpmlochaa.NumK
namespace Go.Proofs.Ytahioajpmlochaa.NumK
open Go.RowKit

theorem refRight_any (n : Int) (w : World) :
    Calls Try.prog 47 #[.int .i64 n] w fun e w' => e = .returned (.bool (isMoney n)) ∧ w = w' := by
  by_cases h1 : -4611686018427387904 ≤ n
  · by_cases h2 : n ≤ 4611686018427387904
    · have H := Lib.hid ((isMoney_iff n).2 ⟨h1, h2⟩)
      go_enter Try.func47, Try.ntmps47
      go_wp2
      go_ret
      exact ⟨ret_b H.out.symm, rfl⟩
    · have hf : isMoney n = false := by rw [← Bool.not_eq_true, isMoney_iff]; omega
      have H := Lib.hid hf
      clear hf
      go_enter Try.func47, Try.ntmps47
      go_wp2
      go_ret
      exact ⟨ret_b H.out.symm, rfl⟩
  · have hf : isMoney n = false := by rw [← Bool.not_eq_true, isMoney_iff]; omega
    have H := Lib.hid hf
    clear hf
    go_enter Try.func47, Try.ntmps47
    go_wp2
    go_ret
    exact ⟨ret_b H.out.symm, rfl⟩

theorem of_any (n : Int) (w : World) (h : -9223372036854775808 ≤ n ∧ n ≤ 9223372036854775807) :
    Calls Try.prog 46 #[.int .i64 n] w fun e w' => e = .returned (.agg #[.int .i64 (hi64 (n)), .int .u64 (lo64 (n))]) ∧ Grew w w' := by
  by_cases c : n < 0
  · have H1 : Hid ((-1 : Int) = hi64 n) := by show (-1 : Int) = _; unfold hi64; omega
    have H2 : Hid (IntKind.u64.wrap n = lo64 n) := by show _ = _; rw [IntKind.wrap_u64]; rfl
    go_enter Try.func46, Try.ntmps46
    go_wp2
    exact bodyPost_ret (v := .agg #[.int .i64 (-1), .int .u64 (IntKind.u64.wrap n)]) (by simp [results, Try.results46, go_sem]) rfl ⟨ret_wv H1.out H2.out, grew_alloc _ _ _⟩
  · have H1 : Hid ((0 : Int) = hi64 n) := by show (0 : Int) = _; unfold hi64; omega
    have H2 : Hid (n = lo64 n) := by show _ = _; unfold lo64; omega
    go_enter Try.func46, Try.ntmps46
    go_wp2
    exact bodyPost_ret (v := .agg #[.int .i64 0, .int .u64 n]) (by simp [results, Try.results46, go_sem]) rfl ⟨ret_wv H1.out H2.out, grew_alloc _ _ _⟩
end Go.Proofs.Ytahioajpmlochaa.NumK
namespace Go.Proofs.Ytahioajpmlochaa.NumK
open Go.RowKit

theorem add64 (x y c : Int) (hx : 0 ≤ x) (hy : 0 ≤ y) (hc0 : 0 ≤ c) (hc : c ≤ 1) (w : World) : (callFunc 51 #[.int .u64 x, .int .u64 y, .int .u64 c]).run Try.prog w =
    .ok (.value (.tuple #[.int .u64 ((x + y + c) % 18446744073709551616), .int .u64 ((x + y + c) / 18446744073709551616)])) w := by
  rw [run_callFunc_extern Try.func51 (by kernel_rfl) (by kernel_rfl) (by kernel_rfl) (e := add64Entry) (by kernel_rfl), run_add64 x y c hx hy hc0 hc]
  rfl
theorem add64_named (x y c s d : Int) (hx : 0 ≤ x) (hy : 0 ≤ y) (hc0 : 0 ≤ c) (hc : c ≤ 1) (hs : s = (x + y + c) % 18446744073709551616) (hd : d = (x + y + c) / 18446744073709551616) (w : World) :
    (callFunc 51 #[.int .u64 x, .int .u64 y, .int .u64 c]).run Try.prog w = .ok (.value (.tuple #[.int .u64 s, .int .u64 d])) w := by
  rw [hs, hd]; exact add64 x y c hx hy hc0 hc w
end Go.Proofs.Ytahioajpmlochaa.NumK
