/- Contracts of the reference's products: mag, neg, Times (cut from XRef01; over XRefOf). -/
import Derived.Test.YtahioajpmlochaaRG7
import Derived.Deep.DeepCutAuto
import Derived.Deep.Light
import Derived.Test.YtahioajpmlochaaRG3
import Derived.Test.YtahioajpmlochaaRG2
import Derived.Deep.QuietTactic
import Derived.BigQuiet
import Derived.Test.YtahioajpmlochaaRG1
import Derived.Lib.BitFns
import Derived.Deep.CutBlock
import Derived.Laws.MakeOwn
namespace Go.Proofs.Ytahioajpmlochaa.NumK
open Go.RowKit

theorem mag_any (n : Int) (w : World) (h : -9223372036854775808 ≤ n ∧ n ≤ 9223372036854775807) :
    Calls Try.prog 48 #[.int .i64 n] w fun e w' => e = .returned (.int .u64 (n.natAbs : Int)) ∧ w = w' := by
  by_cases c : n < 0
  · have e : IntKind.u64.wrap (-IntKind.u64.wrap n) = (n.natAbs : Int) := by rw [IntKind.wrap_u64, IntKind.wrap_u64]; omega
    have E := Lib.hid e
    clear e
    go_enter Try.func48, Try.ntmps48
    go_wp2
    go_ret
    exact ⟨ret_i E.out, rfl⟩
  · have e : (n.natAbs : Int) = n := by omega
    have E := Lib.hid e
    clear e
    go_enter Try.func48, Try.ntmps48
    go_wp2
    go_ret
    exact ⟨ret_i E.out.symm, rfl⟩

set_option maxRecDepth 100000 in
/-- turned round; not of the least one. -/
theorem neg_any (x : Int) (w : World) (h : isWide x = true) (h2 : isWide (-x) = true) :
    Calls Try.prog 49 #[(.agg #[.int .i64 (hi64 (x)), .int .u64 (lo64 (x))])] w fun e w' => e = .returned (.agg #[.int .i64 (hi64 (-x)), .int .u64 (lo64 (-x))]) ∧ Grew w w' := by
  have b1 := lo_bounds x
  have b2 := hi_bounds x h
  have b3 := hi_bounds (-x) h2
  have ex := w_eq x
  obtain ⟨s1, hs1⟩ : ∃ s, s = (18446744073709551615 - lo64 x + 1 + 0) % 18446744073709551616 := ⟨_, rfl⟩
  obtain ⟨d1, hd1⟩ : ∃ s, s = (18446744073709551615 - lo64 x + 1 + 0) / 18446744073709551616 := ⟨_, rfl⟩
  have A1 := add64_named (18446744073709551615 - lo64 x) 1 0 s1 d1 (by omega) (by omega) (by omega) (by omega) hs1 hd1
  have ew : 0 ≤ IntKind.u64.wrap (hi64 x) ∧ IntKind.u64.wrap (hi64 x) < 18446744073709551616 ∧ (IntKind.u64.wrap (hi64 x) = hi64 x ∨ IntKind.u64.wrap (hi64 x) = hi64 x + 18446744073709551616) := by rw [IntKind.wrap_u64]; omega
  obtain ⟨s2, hs2⟩ : ∃ s, s = (18446744073709551615 - IntKind.u64.wrap (hi64 x) + 0 + d1) % 18446744073709551616 := ⟨_, rfl⟩
  obtain ⟨d2, hd2⟩ : ∃ s, s = (18446744073709551615 - IntKind.u64.wrap (hi64 x) + 0 + d1) / 18446744073709551616 := ⟨_, rfl⟩
  have A2 := add64_named (18446744073709551615 - IntKind.u64.wrap (hi64 x)) 0 d1 s2 d2 (by omega) (by omega) (by omega) (by omega) hs2 hd2
  have b4 := (isWide_iff (-x)).1 h2
  have E := w_unique (-x) (IntKind.i64.wrap s2) s1 (by rw [IntKind.wrap_i64]; omega) (by omega) (by omega)
  have E1 := Lib.hid E.1.symm
  have E2 := Lib.hid E.2.symm
  have N1 := not_u64 (lo64 x) (by omega) (by omega)
  have N2 := not_u64 (IntKind.u64.wrap (hi64 x)) (by omega) (by omega)
  generalize eh : IntKind.u64.wrap (hi64 x) = hw at *
  clear hs1 hd1 hs2 hd2 ew E b3 ex b2 b1 b4
  generalize lo64 x = l at *
  generalize hi64 x = hh at *
  clear h h2
  go_enter Try.func49, Try.ntmps49
  go_wp2_with (first | simp only [A1] | simp only [A2])
  exact bodyPost_ret (v := .agg #[.int .i64 (wrap64 s2), .int .u64 s1]) (by simp [results, Try.results49, go_sem]) rfl ⟨ret_wv ((IntWalk.i64_left s2).symm.trans E1.out) E2.out, grew_trans (grew_alloc _ _ _) (grew_alloc _ _ _)⟩




set_option maxHeartbeats 1000000 in
theorem refTimes_any (a b : Int) (w : World) (ha : -9223372036854775808 ≤ a ∧ a ≤ 9223372036854775807) (hb : -9223372036854775808 ≤ b ∧ b ≤ 9223372036854775807) :
    Calls Try.prog 43 #[.int .i64 a, .int .i64 b] w fun e w' => e = .returned (.agg #[.int .i64 (hi64 (a * b)), .int .u64 (lo64 (a * b))]) ∧ Grew w w' := by
  have m1 := fun w => mag_any a w ha
  have m2 := fun w => mag_any b w hb
  have M := mul64_any a.natAbs b.natAbs (by omega) (by omega)
  obtain ⟨t1, t2, t3⟩ := times_arith a b ha hb
  generalize hP : a.natAbs * b.natAbs = P at *
  have e1 : ((P / 18446744073709551616 : Nat) : Int) = hi64 (P : Int) := by unfold hi64; omega
  have e2 : ((P % 18446744073709551616 : Nat) : Int) = lo64 (P : Int) := by unfold lo64; omega
  rw [e1, e2] at M
  have N := fun w => neg_any (P : Int) w ((isWide_iff _).2 (by omega)) ((isWide_iff _).2 (by omega))
  have g1 : 0 ≤ hi64 (P : Int) ∧ hi64 (P : Int) ≤ 4611686018427387904 := by unfold hi64; omega
  obtain ⟨g1, g2⟩ := g1
  have T2 := Lib.hid t2
  have T3 := Lib.hid t3
  clear t1 t2 t3 e1 e2 hP
  by_cases s1 : a < 0 <;> by_cases s2 : b < 0
  · have d1 : decide (a < 0) = true := by simpa using s1
    have d2 : decide (b < 0) = true := by simpa using s2
    go_enter Try.func43, Try.ntmps43
    go_wp2_with (first
      | (go_at_call 48; ((with_reducible refine (m1 _).mono ?_); rintro e w' ⟨rfl, rfl⟩))
      | (go_at_call 48; ((with_reducible refine (m2 _).mono ?_); rintro e w' ⟨rfl, rfl⟩))
      | (go_at_call 40; ((with_reducible refine (M _).mono ?_); rintro e w' ⟨rfl, rfl⟩))
      | (go_at_call 49; ((with_reducible refine (N _).mono ?_); rintro e w1 ⟨rfl, hg1⟩)))
    exact bodyPost_ret (v := (.agg #[.int .i64 (hi64 ((P : Int))), .int .u64 (lo64 ((P : Int)))])) (by simp [results, Try.results43, go_sem]) rfl ⟨ret_wv (by rw [T2.out (by omega)]) (by rw [T2.out (by omega)]), grew_trans (grew_alloc _ _ _) (grew_alloc _ _ _)⟩
  · have d1 : decide (a < 0) = true := by simpa using s1
    have d2 : decide (b < 0) = false := by simpa using s2
    go_enter Try.func43, Try.ntmps43
    go_wp2_with (first
      | (go_at_call 48; ((with_reducible refine (m1 _).mono ?_); rintro e w' ⟨rfl, rfl⟩))
      | (go_at_call 48; ((with_reducible refine (m2 _).mono ?_); rintro e w' ⟨rfl, rfl⟩))
      | (go_at_call 40; ((with_reducible refine (M _).mono ?_); rintro e w' ⟨rfl, rfl⟩))
      | (go_at_call 49; ((with_reducible refine (N _).mono ?_); rintro e w1 ⟨rfl, hg1⟩; have k0 := own_cells hg1; obtain ⟨k1, k2, k3, k4, k5⟩ := k0)))
    have hz := own_grew hg1
    exact bodyPost_ret (v := (.agg #[.int .i64 (hi64 (-(P : Int))), .int .u64 (lo64 (-(P : Int)))])) (by simp [results, Try.results43, go_sem, k1, k2]) rfl ⟨ret_wv (by rw [T3.out (by omega)]) (by rw [T3.out (by omega)]), grew_set (grew_set hz _ (Nat.le_refl _)) _ (Nat.le_refl _)⟩
  · have d1 : decide (a < 0) = false := by simpa using s1
    have d2 : decide (b < 0) = true := by simpa using s2
    go_enter Try.func43, Try.ntmps43
    go_wp2_with (first
      | (go_at_call 48; ((with_reducible refine (m1 _).mono ?_); rintro e w' ⟨rfl, rfl⟩))
      | (go_at_call 48; ((with_reducible refine (m2 _).mono ?_); rintro e w' ⟨rfl, rfl⟩))
      | (go_at_call 40; ((with_reducible refine (M _).mono ?_); rintro e w' ⟨rfl, rfl⟩))
      | (go_at_call 49; ((with_reducible refine (N _).mono ?_); rintro e w1 ⟨rfl, hg1⟩; have k0 := own_cells hg1; obtain ⟨k1, k2, k3, k4, k5⟩ := k0)))
    have hz := own_grew hg1
    exact bodyPost_ret (v := (.agg #[.int .i64 (hi64 (-(P : Int))), .int .u64 (lo64 (-(P : Int)))])) (by simp [results, Try.results43, go_sem, k1, k2]) rfl ⟨ret_wv (by rw [T3.out (by omega)]) (by rw [T3.out (by omega)]), grew_set (grew_set hz _ (Nat.le_refl _)) _ (Nat.le_refl _)⟩
  · have d1 : decide (a < 0) = false := by simpa using s1
    have d2 : decide (b < 0) = false := by simpa using s2
    go_enter Try.func43, Try.ntmps43
    go_wp2_with (first
      | (go_at_call 48; ((with_reducible refine (m1 _).mono ?_); rintro e w' ⟨rfl, rfl⟩))
      | (go_at_call 48; ((with_reducible refine (m2 _).mono ?_); rintro e w' ⟨rfl, rfl⟩))
      | (go_at_call 40; ((with_reducible refine (M _).mono ?_); rintro e w' ⟨rfl, rfl⟩))
      | (go_at_call 49; ((with_reducible refine (N _).mono ?_); rintro e w1 ⟨rfl, hg1⟩)))
    exact bodyPost_ret (v := (.agg #[.int .i64 (hi64 ((P : Int))), .int .u64 (lo64 ((P : Int)))])) (by simp [results, Try.results43, go_sem]) rfl ⟨ret_wv (by rw [T2.out (by omega)]) (by rw [T2.out (by omega)]), grew_trans (grew_alloc _ _ _) (grew_alloc _ _ _)⟩
end Go.Proofs.Ytahioajpmlochaa.NumK
namespace Go.Proofs.Ytahioajpmlochaa.NumK
open Go.RowKit
set_option linter.unusedVariables false

theorem own_form {α : Type} {E : En α} {w : World} {base : Nat} {t : TypeId} {A : Option Addr} {n c : Nat} {l : List α} (h : OwnE E w base t (.slice A n c) l) : RowE E w A l.length l ∧ (A = none → c = 0) ∧ l.length ≤ c ∧ c ≤ 9223372036854775807 := by
  obtain ⟨A', c', e, hr, hn, h1, h2⟩ := h.form
  cases e
  exact ⟨hr, hn, h1, by unfold maxLen at h2; omega⟩
theorem OwnE.block {α : Type} {E : En α} {w : World} {base : Nat} {t : TypeId} {A : Option Addr} {n c : Nat} {l : List α} (h : OwnE E w base t (.slice A n c) l) : ∀ x, A = some x → base ≤ x.block ∧ x.block < w.heap.size := by
  intro x hx
  subst hx
  exact World.ownsRow.lt h x.block rfl
/-- Not in one block. -/
def Apart (A B : Option Addr) : Prop := ∀ x y, A = some x → B = some y → x.block ≠ y.block
end Go.Proofs.Ytahioajpmlochaa.NumK
namespace Go.Proofs.Ytahioajpmlochaa.NumK
set_option linter.unusedVariables false
section
variable {α : Type}

def setL (no : α → Int) (l : List α) (k : Int) (o : Option α) : List α := l.filter (fun y => decide (no y < k)) ++ (o.toList ++ l.filter (fun y => decide (k < no y)))
theorem mem_setL (no : α → Int) (l : List α) (k : Int) (o : Option α) (y : α) : y ∈ setL no l k o ↔ o = some y ∨ (y ∈ l ∧ no y ≠ k) := by
  unfold setL
  rw [List.mem_append, List.mem_append, List.mem_filter, List.mem_filter, Option.mem_toList]
  simp only [decide_eq_true_eq]
  constructor
  · rintro (⟨h1, h2⟩ | h | ⟨h1, h2⟩)
    · exact Or.inr ⟨h1, by omega⟩
    · exact Or.inl h
    · exact Or.inr ⟨h1, by omega⟩
  · rintro (h | ⟨h1, h2⟩)
    · exact Or.inr (Or.inl h)
    · rcases Int.lt_or_gt_of_ne h2 with h3 | h3
      · exact Or.inl ⟨h1, h3⟩
      · exact Or.inr (Or.inr ⟨h1, h3⟩)
theorem rise_setL {no : α → Int} {l : List α} (h : Rise no l) (k : Int) (o : Option α) (ho : ∀ x, o = some x → no x = k) : Rise no (setL no l k o) := by
  unfold Rise setL
  rw [List.pairwise_append, List.pairwise_append]
  refine ⟨List.Pairwise.filter _ h, ⟨by cases o <;> simp, List.Pairwise.filter _ h, fun y hy z hz => ?_⟩, fun y hy z hz => ?_⟩
  · rw [Option.mem_toList] at hy
    rw [List.mem_filter, decide_eq_true_eq] at hz
    rw [ho y hy]; exact hz.2
  · rw [List.mem_filter, decide_eq_true_eq] at hy
    rcases List.mem_append.1 hz with hz | hz
    · rw [Option.mem_toList] at hz
      rw [ho z hz]; exact hy.2
    · rw [List.mem_filter, decide_eq_true_eq] at hz
      omega
/-- What is put stands there. -/
def getL (no : α → Int) (l : List α) (k : Int) : Option α := l.find? fun x => decide (no x = k)
theorem getL_iff {no : α → Int} {l : List α} (h : Rise no l) (k : Int) (x : α) : getL no l k = some x ↔ x ∈ l ∧ no x = k := by
  unfold getL
  constructor
  · intro e
    exact ⟨List.mem_of_find?_eq_some e, by simpa using List.find?_some e⟩
  · rintro ⟨h1, h2⟩
    cases e : l.find? (fun x => decide (no x = k)) with
    | none => rw [List.find?_eq_none] at e; have := e x h1; simp [h2] at this
    | some y =>
      have e1 : y ∈ l := List.mem_of_find?_eq_some e
      have e2 : no y = k := by simpa using List.find?_some e
      rw [rise_one h e1 h1 (by omega)]
theorem getL_none {no : α → Int} {l : List α} (k : Int) : getL no l k = none ↔ ∀ x ∈ l, no x ≠ k := by
  unfold getL; rw [List.find?_eq_none]; simp
theorem getL_ext {no : α → Int} {l m : List α} (hl : Rise no l) (hm : Rise no m) (h : ∀ k, getL no l k = getL no m k) : l = m :=
  rise_ext no l m hl hm fun y => by
    have h1 := getL_iff hl (no y) y
    have h2 := getL_iff hm (no y) y
    rw [h] at h1
    constructor
    · intro hy; exact (h2.1 (h1.2 ⟨hy, rfl⟩)).1
    · intro hy; exact (h1.1 (h2.2 ⟨hy, rfl⟩)).1
theorem getL_set {no : α → Int} {l : List α} (h : Rise no l) (k : Int) (o : Option α) (ho : ∀ x, o = some x → no x = k) (n : Int) : getL no (setL no l k o) n = if n = k then o else getL no l n := by
  have hr := rise_setL h k o ho
  by_cases hc : n = k
  · subst hc
    rw [if_pos rfl]
    cases o with
    | none => rw [getL_none]; intro x hx; rcases (mem_setL no l n none x).1 hx with h1 | ⟨_, h1⟩
              · cases h1
              · exact h1
    | some x => exact (getL_iff hr n x).2 ⟨(mem_setL no l n _ x).2 (Or.inl rfl), ho x rfl⟩
  · rw [if_neg hc]
    cases e : getL no l n with
    | none =>
      rw [getL_none] at e ⊢
      intro x hx
      rcases (mem_setL no l k o x).1 hx with h1 | ⟨h1, _⟩
      · rw [ho x h1]; omega
      · exact e x h1
    | some x =>
      obtain ⟨h1, h2⟩ := (getL_iff h n x).1 e
      exact (getL_iff hr n x).2 ⟨(mem_setL no l k o x).2 (Or.inr ⟨h1, by omega⟩), h2⟩
theorem set_set {no : α → Int} {l : List α} (h : Rise no l) (k : Int) (o p : Option α) (ho : ∀ x, o = some x → no x = k) (hp : ∀ x, p = some x → no x = k) : setL no (setL no l k o) k p = setL no l k p :=
  getL_ext (rise_setL (rise_setL h k o ho) k p hp) (rise_setL h k p hp) fun n => by
    rw [getL_set (rise_setL h k o ho) k p hp, getL_set h k p hp, getL_set h k o ho]
    split <;> rfl
/-! ### out of keys that rise -/
end
end Go.Proofs.Ytahioajpmlochaa.NumK
namespace Go.Proofs.Ytahioajpmlochaa.NumK
set_option linter.unusedVariables false

/-- Who, the asset, the units. -/
abbrev Pg := Int × Int × Int
abbrev pg0 : Pg := (0, 0, 0)
def noPg (x : Pg) : Int := x.1 * 8 + x.2.1
def okPK (w a : Int) : Bool := wi w 1 16 && wi a 1 6
def okPg (x : Pg) : Bool := okPK x.1 x.2.1 && wi x.2.2 1 1099511627776
def rightPg (l : List Pg) : Bool := rightL okPg noPg pg0 l
def isPg (w a : Int) (x : Pg) : Bool := decide (x.1 = w) && decide (x.2.1 = a)
def findPg (l : List Pg) (w a : Int) : Option Pg := l.find? (isPg w a)
def unP (o : Option Pg) : Int := match o with | some x => x.2.2 | none => 0
def unitsL (l : List Pg) (w a : Int) : Int := unP (findPg l w a)
def changeO (w a n : Int) : Option Pg := if n ≤ 0 then none else some (w, a, n)
def changeE (l : List Pg) (w a u : Int) : Int :=
  if rightPg l then (if okPK w a && wi u (-1099511627776) 1099511627776 then (if unitsL l w a + u < 0 then 13 else (if 1099511627776 < unitsL l w a + u then 1 else 0)) else 3) else 14
def changeL (l : List Pg) (w a u : Int) : List Pg := if changeE l w a u = 0 then setL noPg l (w * 8 + a) (changeO w a (unitsL l w a + u)) else []
/-! ### the worth of collateral -/
def valueV (x : As) (u : Int) : Int := (u * (x.2.2.1 * (10000 - x.2.2.2))).fdiv 10000
def valueE (x : As) (u : Int) : Int := if okAs x && wi u 0 1099511627776 then (if valueV x u ≤ 4611686018427387904 then 0 else 1) else 3
def valueN (x : As) (u : Int) : Int := if valueE x u = 0 then valueV x u else 0
/-- The net worth of one unit, 10000 times. -/
def unitW (x : As) : Int := x.2.2.1 * (10000 - x.2.2.2)
end Go.Proofs.Ytahioajpmlochaa.NumK
namespace Go.Proofs.Ytahioajpmlochaa.NumK
open Go.RowKit
set_option linter.unusedVariables false

def worthV (p : Po) (mult price : Int) : Int := mult * (p.2.2.1 * price - p.2.2.2)
def mayW (p : Po) (mult price : Int) : Bool := okQ p.2.2.1 && isMoney p.2.2.2 && wi mult 1 1024 && wi price 0 1073741824
def worthE (p : Po) (mult price : Int) : Int := if mayW p mult price then (if isMoney (worthV p mult price) then 0 else 1) else 3
def worthN (p : Po) (mult price : Int) : Int := if worthE p mult price = 0 then worthV p mult price else 0
/-- The price that was told, or the last one; none: 0. -/
def priceI (i : In) : Int := if i.1.2.2.2.2.1 = 0 then i.1.2.2.2.2.2 else i.1.2.2.2.2.1
def priceE (i : In) : Int := if i.1.2.2.2.2.1 = 0 ∧ i.1.2.2.2.2.2 = 0 then 20 else 0
def instOf (r : Rl) (p : Po) : In := findL noIn in0 r.2.1 p.2.1
def hasI (r : Rl) (p : Po) : Bool := hasL noIn r.2.1 p.2.1
def wonP (r : Rl) (p : Po) : Int := worthV p (instOf r p).1.2.2.1 (priceI (instOf r p))
def costP (r : Rl) (p : Po) : Int := p.2.2.1 * priceI (instOf r p)
/-- What is amiss with a position. -/
def stepM (r : Rl) (p : Po) : Int :=
  if hasI r p then (if priceI (instOf r p) = 0 ∧ p.2.2.1 ≠ 0 then 20 else (if isMoney (wonP r p) && isMoney (costP r p) then 0 else 1)) else 10
/-- The first thing that is amiss. -/
def firstM (r : Rl) : List Po → Int
  | [] => 0
  | p :: l => if stepM r p = 0 then firstM r l else stepM r p
/-- Marked. -/
def markP (r : Rl) (p : Po) : Option Po := if p.2.2.1 = 0 ∧ costP r p = 0 then none else some (p.1, p.2.1, p.2.2.1, costP r p)
def markL (r : Rl) (l : List Po) : List Po := l.filterMap (markP r)
def dueP (r : Rl) (p : Po) : Int × Int × Int := (p.1, (instOf r p).1.2.1, wonP r p)
def duesM (r : Rl) (l : List Po) : List (Int × Int × Int) := l.map (dueP r)
/-! ### what all win -/
/-! ### from price to price -/
end Go.Proofs.Ytahioajpmlochaa.NumK
namespace Go.Proofs.Ytahioajpmlochaa.NumK
open Go.RowKit
set_option linter.unusedVariables false

/-- Does a position count? -/
def cntG (r : Rl) (who cur : Int) (p : Po) : Bool := hasI r p && (decide (p.1 = who) && decide ((instOf r p).1.2.1 = cur))
def shJ (i : In) (j : Nat) : Int := (shIn i).getD j 0
def lossP (r : Rl) (j : Nat) (p : Po) : Int := -p.2.2.1 * ((instOf r p).1.2.2.1 * shJ (instOf r p) j)
def lossV (r : Rl) (who cur : Int) (l : List Po) (j : Nat) : Int := ((l.filter (cntG r who cur)).map (lossP r j)).sum
def absI (q : Int) : Int := if -q < q then q else -q
def addP (r : Rl) (p : Po) : Int := absI p.2.2.1 * (instOf r p).1.2.2.2.1
def addG (r : Rl) (who cur : Int) (l : List Po) : Int := ((l.filter (cntG r who cur)).map (addP r)).sum
/-- The greatest of the first m losses, or 0. -/
def mostV (f : Nat → Int) : Nat → Int
  | 0 => 0
  | j + 1 => if mostV f j < f j then f j else mostV f j
def margV (r : Rl) (who cur : Int) (l : List Po) : Int := mostV (lossV r who cur l) 6 + addG r who cur l

/-! ### add-ons are not below 0 -/
/-! ### what follows -/
def turnP (p : Po) : Po := (p.1, p.2.1, -p.2.2.1, p.2.2.2)
end Go.Proofs.Ytahioajpmlochaa.NumK
namespace Go.Proofs.Ytahioajpmlochaa.NumK
open Go.RowKit

end Go.Proofs.Ytahioajpmlochaa.NumK
namespace Go.Proofs.Ytahioajpmlochaa.NumK
open Go.RowKit

def sgn (n : Int) : Int := if n < 0 then -1 else 0
end Go.Proofs.Ytahioajpmlochaa.NumK
namespace Go.Proofs.Ytahioajpmlochaa.NumK
open Go.RowKit

end Go.Proofs.Ytahioajpmlochaa.NumK
namespace Go.Proofs.Ytahioajpmlochaa.NumK
open Go.RowKit

/-! ### a slice of wides -/
def wcells (x : Int) : List Value := [.int .i64 (hi64 x), .int .u64 (lo64 x)]
def Wides (w : World) (A : Option Addr) (n : Nat) (xs : List Int) : Prop :=
  xs.length = n ∧ (0 < n → ∃ b o, A = some ⟨b, o, none⟩ ∧ b < w.heap.size ∧ ∀ j, j < n → w.cell? ⟨b, o + j * 2, none⟩ = some (.int .i64 (hi64 (xs.getD j 0))) ∧ w.cell? ⟨b, o + j * 2 + 1, none⟩ = some (.int .u64 (lo64 (xs.getD j 0))))

section
variable {w : World} {ops : Array Oper} {rest : List Oper} {o : Oper} {a : Act} {Q : Exit → Act → World → Prop}
end

end Go.Proofs.Ytahioajpmlochaa.NumK
namespace Go.Proofs.Ytahioajpmlochaa.NumK
open Go.RowKit

theorem Wides.keep {w w' : World} {A : Option Addr} {n : Nat} {xs : List Int} (h : Wides w A n xs) (g : Grew w w') : Wides w' A n xs :=
  ⟨h.1, fun hn => by
    obtain ⟨b, o, e, hb, hc⟩ := h.2 hn
    exact ⟨b, o, e, Nat.lt_of_lt_of_le hb g.size, fun j hj => ⟨(grew_cell g (p := ⟨b, o + j * 2, none⟩) hb).trans (hc j hj).1, (grew_cell g (p := ⟨b, o + j * 2 + 1, none⟩) hb).trans (hc j hj).2⟩⟩⟩

def wideE (x : Int) : Int := if isWide x then 0 else 1

end Go.Proofs.Ytahioajpmlochaa.NumK
namespace Go.Proofs.Ytahioajpmlochaa.NumK
open Go.RowKit

end Go.Proofs.Ytahioajpmlochaa.NumK
namespace Go.Proofs.Ytahioajpmlochaa.NumK
open Go.RowKit

/-- y1 and y0 are the halves of what divides, u the rest so far, d the next digit, q and r the guess: q is not below the digit that is looked for. -/
def Dig (y1 y0 u d q r : Int) : Prop := q * y1 + r = u ∧ u * 4294967296 + d < (q + 1) * (y1 * 4294967296 + y0) ∧ 0 ≤ r ∧ 0 ≤ q ∧ q ≤ 4294967297

theorem dig_start (y1 y0 u d q : Int) (h1 : 2147483648 ≤ y1) (h3 : 0 ≤ y0) (h4 : y0 < 4294967296) (h5 : 0 ≤ u) (h6 : u < y1 * 4294967296 + y0) (h8 : d < 4294967296) (hq : q = u / y1) :
    Dig y1 y0 u d q (u - q * y1) ∧ u - q * y1 < y1 := by
  have e1 := Int.mul_ediv_add_emod u y1
  have e2 := Int.emod_nonneg u (show y1 ≠ 0 by omega)
  have e3 := Int.emod_lt_of_pos u (show 0 < y1 by omega)
  have e4 : 0 ≤ q := by rw [hq]; exact Int.ediv_nonneg h5 (by omega)
  rw [← hq, Int.mul_comm] at e1
  have e5 : q ≤ 4294967297 := by
    rcases Int.lt_or_le 4294967297 q with h | h
    · have : 4294967298 * y1 ≤ q * y1 := Int.mul_le_mul_of_nonneg_right h (by omega)
      omega
    · exact h
  have e6 : (q + 1) * (y1 * 4294967296 + y0) = q * y1 * 4294967296 + y1 * 4294967296 + (q + 1) * y0 := by grind
  have e7 : 0 ≤ (q + 1) * y0 := Int.mul_nonneg (by omega) h3
  refine ⟨⟨by omega, ?_, by omega, e4, e5⟩, by omega⟩
  rw [e6]
  generalize (q + 1) * y0 = A at *
  generalize q * y1 = B at *
  omega

/-! ### shifts and masks of 64 bits -/
theorem maskI (x : Int) (h0 : 0 ≤ x) (h1 : x < 18446744073709551616) : bits .and .u64 x 4294967295 = x % 4294967296 := by
  obtain ⟨a, rfl⟩ := Int.eq_ofNat_of_zero_le h0
  have h := bits_and_u64_nat a 4294967295 (by omega) (by omega)
  have e : a &&& 4294967295 = a % 4294967296 := Nat.and_two_pow_sub_one_eq_mod a 32
  rw [e] at h
  exact h

theorem or_shift (a b s : Nat) (hb : b < 2 ^ s) (ha : a * 2 ^ s < 18446744073709551616) (hb2 : b < 18446744073709551616) : bits .or .u64 ((a * 2 ^ s : Nat) : Int) (b : Int) = ((a * 2 ^ s + b : Nat) : Int) := by
  have h := bits_or_u64_nat (a * 2 ^ s) b ha hb2
  rw [h, ← Nat.shiftLeft_eq, ← Nat.shiftLeft_add_eq_or_of_lt hb]
end Go.Proofs.Ytahioajpmlochaa.NumK
namespace Go.Proofs.Ytahioajpmlochaa.NumK
open Go.RowKit

theorem pow_nat (s : Nat) : ((2 : Int) ^ s) = ((2 ^ s : Nat) : Int) := by simp

theorem scaled (hi lo y s : Int) (h0 : 0 ≤ hi) (h1 : hi < y) (l0 : 0 ≤ lo) (l1 : lo ≤ 18446744073709551615) (s0 : 0 ≤ s) (s1 : s ≤ 63) (p0 : 2 ^ (63 - s).toNat ≤ y) (p1 : y < 2 ^ (64 - s).toNat) :
    ∃ Y H B U L y1 y0 d1 d0 : Int, IntKind.u64.wrap (y * 2 ^ s.toNat) = Y ∧ IntKind.u64.wrap (hi * 2 ^ s.toNat) = H ∧ lo / 2 ^ (64 - s).toNat = B ∧ bits .or .u64 H B = U ∧ IntKind.u64.wrap (lo * 2 ^ s.toNat) = L
      ∧ Y / 4294967296 = y1 ∧ bits .and .u64 Y 4294967295 = y0 ∧ L / 4294967296 = d1 ∧ bits .and .u64 L 4294967295 = d0
      ∧ Y = y1 * 4294967296 + y0 ∧ 2147483648 ≤ y1 ∧ y1 < 4294967296 ∧ 0 ≤ y0 ∧ y0 < 4294967296 ∧ 0 ≤ d1 ∧ d1 < 4294967296 ∧ 0 ≤ d0 ∧ d0 < 4294967296 ∧ 0 ≤ U ∧ U < Y
      ∧ (0 ≤ H ∧ H < 18446744073709551616) ∧ (0 ≤ B ∧ B < 18446744073709551616) ∧ (0 ≤ L ∧ L < 18446744073709551616)
      ∧ U * 18446744073709551616 + (d1 * 4294967296 + d0) = (hi * 18446744073709551616 + lo) * 2 ^ s.toNat ∧ Y = y * 2 ^ s.toNat := by
  obtain ⟨k, rfl⟩ := Int.eq_ofNat_of_zero_le s0
  have k1 : k ≤ 63 := by omega
  have t1 : ((k : Int)).toNat = k := by omega
  have t2 : (64 - (k : Int)).toNat = 64 - k := by omega
  have t3 : (63 - (k : Int)).toNat = 63 - k := by omega
  rw [t2] at p1
  rw [t3] at p0
  rw [t1, t2]
  have hST : (2 : Int) ^ k * 2 ^ (64 - k) = 18446744073709551616 := by
    rw [← Int.pow_add, show k + (64 - k) = 64 by omega]; rfl
  have hSV : (2 : Int) ^ k * 2 ^ (63 - k) = 9223372036854775808 := by
    rw [← Int.pow_add, show k + (63 - k) = 63 by omega]; rfl
  have hS : (0 : Int) < 2 ^ k := Int.pow_pos (by omega)
  have hT : (0 : Int) < 2 ^ (64 - k) := Int.pow_pos (by omega)
  obtain ⟨a, rfl⟩ := Int.eq_ofNat_of_zero_le h0
  obtain ⟨l, rfl⟩ := Int.eq_ofNat_of_zero_le l0
  have hB0 : 0 ≤ (l : Int) / 2 ^ (64 - k) := Int.ediv_nonneg (by omega) (by omega)
  have hB1 : (l : Int) / 2 ^ (64 - k) < 2 ^ k := by
    apply Int.ediv_lt_of_lt_mul hT
    rw [hST]; omega
  obtain ⟨b, hb⟩ := Int.eq_ofNat_of_zero_le hB0
  have hY1 : y * 2 ^ k < 18446744073709551616 := by
    have := Int.mul_lt_mul_of_pos_right p1 hS
    rw [Int.mul_comm (2 ^ (64 - k)), hST] at this; exact this
  have hY0 : 9223372036854775808 ≤ y * 2 ^ k := by
    have := Int.mul_le_mul_of_nonneg_right p0 (Int.le_of_lt hS)
    rw [Int.mul_comm (2 ^ (63 - k)), hSV] at this; exact this
  have hU : (a : Int) * 2 ^ k + 2 ^ k ≤ y * 2 ^ k := by
    have := Int.mul_le_mul_of_nonneg_right (show (a : Int) + 1 ≤ y by omega) (Int.le_of_lt hS)
    rw [Int.add_mul, Int.one_mul] at this; exact this
  have hA0 : 0 ≤ (a : Int) * 2 ^ k := Int.mul_nonneg (by omega) (by omega)
  have hwY : IntKind.u64.wrap (y * 2 ^ k) = y * 2 ^ k := by rw [IntKind.wrap_u64]; omega
  have hwH : IntKind.u64.wrap ((a : Int) * 2 ^ k) = (a : Int) * 2 ^ k := by rw [IntKind.wrap_u64]; omega
  have hl := Int.mul_ediv_add_emod (l : Int) (2 ^ (64 - k))
  have hl0 := Int.emod_nonneg (l : Int) (show (2 : Int) ^ (64 - k) ≠ 0 by omega)
  have hl1 := Int.emod_lt_of_pos (l : Int) hT
  have hL0 : 0 ≤ (l : Int) % 2 ^ (64 - k) * 2 ^ k := Int.mul_nonneg hl0 (by omega)
  have hL1 : (l : Int) % 2 ^ (64 - k) * 2 ^ k < 18446744073709551616 := by
    have := Int.mul_lt_mul_of_pos_right hl1 hS
    rw [Int.mul_comm (2 ^ (64 - k)), hST] at this; exact this
  have hL : (l : Int) * 2 ^ k = (l : Int) / 2 ^ (64 - k) * 18446744073709551616 + (l : Int) % 2 ^ (64 - k) * 2 ^ k := by
    have e : ((2 : Int) ^ (64 - k) * ((l : Int) / 2 ^ (64 - k)) + (l : Int) % 2 ^ (64 - k)) * 2 ^ k = (l : Int) / 2 ^ (64 - k) * (2 ^ k * 2 ^ (64 - k)) + (l : Int) % 2 ^ (64 - k) * 2 ^ k := by grind
    rw [hl, hST] at e
    exact e
  have hwL : IntKind.u64.wrap ((l : Int) * 2 ^ k) = (l : Int) % 2 ^ (64 - k) * 2 ^ k := by rw [IntKind.wrap_u64, hL]; omega
  have hO : bits .or .u64 ((a : Int) * 2 ^ k) (l / 2 ^ (64 - k)) = (a : Int) * 2 ^ k + (l : Int) / 2 ^ (64 - k) := by
    have hA1 : (a : Int) * 2 ^ k < 18446744073709551616 := by omega
    rw [hb]
    rw [pow_nat, ← Int.natCast_mul] at hA1
    have hA2 : a * 2 ^ k < 18446744073709551616 := by omega
    have hB2 : b < 2 ^ k := by rw [hb, pow_nat] at hB1; omega
    have hB3 : b < 18446744073709551616 := by
      have : (2 : Nat) ^ k ≤ 2 ^ 63 := Nat.pow_le_pow_right (by omega) k1
      omega
    have := or_shift a b k hB2 hA2 hB3
    rw [pow_nat, ← Int.natCast_mul, this, Int.natCast_add]
  rw [hwY, hwH, hwL]
  have hmY := maskI (y * 2 ^ k) (by omega) (by omega)
  have hmL := maskI ((l : Int) % 2 ^ (64 - k) * 2 ^ k) (by omega) (by omega)
  have hN : ((a : Int) * 2 ^ k + (l : Int) / 2 ^ (64 - k)) * 18446744073709551616 + (l : Int) % 2 ^ (64 - k) * 2 ^ k = (a * 18446744073709551616 + l) * 2 ^ k := by
    rw [Int.add_mul, Int.add_mul (a * 18446744073709551616), hL]
    have : (a : Int) * 2 ^ k * 18446744073709551616 = a * 18446744073709551616 * 2 ^ k := by grind
    omega
  refine ⟨_, _, _, _, _, _, _, _, _, rfl, rfl, rfl, hO, rfl, rfl, hmY, rfl, hmL, ?_⟩
  generalize (a : Int) * 2 ^ k = A at *
  generalize (l : Int) % 2 ^ (64 - k) * 2 ^ k = L at *
  generalize (l : Int) / 2 ^ (64 - k) = B at *
  generalize y * 2 ^ k = Y at *
  generalize (a * 18446744073709551616 + l : Int) * 2 ^ k = N at *
  have hSb : (2 : Int) ^ k ≤ 9223372036854775808 := by
    have : (2 : Int) ^ k * 1 ≤ 2 ^ k * 2 ^ (63 - k) := Int.mul_le_mul_of_nonneg_left (by have : (0 : Int) < 2 ^ (63 - k) := Int.pow_pos (by omega); omega) (by omega)
    omega
  generalize (2 : Int) ^ k = S at *
  refine ⟨by omega, by omega, by omega, by omega, by omega, by omega, by omega, by omega, by omega, by omega, by omega, ⟨by omega, by omega⟩, ⟨by omega, by omega⟩, ⟨by omega, by omega⟩, by omega, rfl⟩

theorem digit (Y y1 y0 u d : Int) (f1 : Y = y1 * 4294967296 + y0) (f2 : 2147483648 ≤ y1) (f3 : y1 < 4294967296) (f4 : 0 ≤ y0) (f5 : y0 < 4294967296) (f6 : 0 ≤ d) (f7 : d < 4294967296) (f10 : 0 ≤ u) (f11 : u < Y) :
    ∃ q m q2 V a1 a2 a3 : Int, IntKind.u64.wrap (u.tdiv y1) = q ∧ IntKind.u64.wrap (q * y1) = m ∧ Dig y1 y0 u d q (u - m) ∧ 0 ≤ q ∧ q ≤ 4294967297 ∧ 0 ≤ m ∧ m ≤ u ∧ u - m < y1
      ∧ (u * 4294967296 + d) / (y1 * 4294967296 + y0) = q2 ∧ 0 ≤ q2 ∧ q2 < 4294967296 ∧ IntKind.u64.wrap (u * 4294967296) = a1 ∧ IntKind.u64.wrap (a1 + d) = a2 ∧ IntKind.u64.wrap (q2 * Y) = a3 ∧ IntKind.u64.wrap (a2 - a3) = V
      ∧ 0 ≤ V ∧ V < Y ∧ u * 4294967296 + d = q2 * Y + V := by
  obtain ⟨dg, dr⟩ := dig_start y1 y0 u d (u / y1) f2 f4 f5 f10 (by omega) f7 rfl
  obtain ⟨a1, a2, a3, a4, a5⟩ := id dg
  have m0 : 0 ≤ u / y1 * y1 := Int.mul_nonneg a4 (by omega)
  have e1 : IntKind.u64.wrap (u.tdiv y1) = u / y1 := by rw [Int.tdiv_eq_ediv_of_nonneg f10, IntKind.wrap_u64]; omega
  have e2 : IntKind.u64.wrap (u / y1 * y1) = u / y1 * y1 := by
    generalize u / y1 * y1 = M at *
    rw [IntKind.wrap_u64]; omega
  rw [← f1]
  have n0 : 0 ≤ (u * 4294967296 + d) / Y := Int.ediv_nonneg (by omega) (by omega)
  have n1 : (u * 4294967296 + d) / Y < 4294967296 := Int.ediv_lt_of_lt_mul (by omega) (by omega)
  have n2 := Int.mul_ediv_add_emod (u * 4294967296 + d) Y
  have n3 := Int.emod_nonneg (u * 4294967296 + d) (show Y ≠ 0 by omega)
  have n4 := Int.emod_lt_of_pos (u * 4294967296 + d) (show 0 < Y by omega)
  rw [Int.mul_comm] at n2
  refine ⟨_, _, _, (u * 4294967296 + d) % Y, _, _, _, e1, e2, dg, a4, a5, m0, by omega, dr, rfl, n0, n1, rfl, rfl, rfl, ?_, n3, n4, n2.symm⟩
  generalize (u * 4294967296 + d) / Y * Y = A at *
  generalize (u * 4294967296 + d) % Y = B at *
  rw [IntKind.wrap_u64, IntKind.wrap_u64, IntKind.wrap_u64, IntKind.wrap_u64]
  omega

end Go.Proofs.Ytahioajpmlochaa.NumK
namespace Go.Proofs.Ytahioajpmlochaa.NumK
open Go.RowKit

end Go.Proofs.Ytahioajpmlochaa.NumK
namespace Go.Proofs.Ytahioajpmlochaa.NumK
open Go.RowKit
set_option linter.unusedVariables false

theorem bidS_take (l : List Bi) (i : Nat) (h : i < l.length) : bidS (l.take (i + 1)) = bidS (l.take i) + (l.getD i bi0).2.2.2.1 := by
  rw [List.take_succ_eq_append_getElem h, bidS_app, getD_at l bi0 i h]
  unfold bidS; simp
theorem filS_app (l m : List Fi) : filS (l ++ m) = filS l + filS m := by unfold filS; rw [List.map_append, sum_app]
theorem filS_take (l : List Fi) (i : Nat) (h : i < l.length) : filS (l.take (i + 1)) = filS (l.take i) + (l.getD i fi0).2.1 := by
  rw [List.take_succ_eq_append_getElem h, filS_app, getD_at l fi0 i h]
  unfold filS; simp
theorem filG_app (p : Int → Int → Bool) (l m : List Fi) : filG p (l ++ m) = filG p l + filG p m := by unfold filG; rw [List.filter_append, filS_app]
theorem bidG_app (p : Int → Int → Bool) (l m : List Bi) : bidG p (l ++ m) = bidG p l + bidG p m := by unfold bidG; rw [List.filter_append, bidS_app]
theorem filG_take (p : Int → Int → Bool) (l : List Fi) (i : Nat) (h : i < l.length) : filG p (l.take (i + 1)) = filG p (l.take i) + (if p (l.getD i fi0).1 (l.getD i fi0).2.2 then (l.getD i fi0).2.1 else 0) := by
  rw [List.take_succ_eq_append_getElem h, filG_app, getD_at l fi0 i h, filG_cons]
  have : filG p [] = 0 := rfl
  rw [this]; omega
theorem bidG_take (p : Int → Int → Bool) (l : List Bi) (i : Nat) (h : i < l.length) : bidG p (l.take (i + 1)) = bidG p (l.take i) + (if p (l.getD i bi0).2.2.1 (l.getD i bi0).2.2.2.2 then (l.getD i bi0).2.2.2.1 else 0) := by
  rw [List.take_succ_eq_append_getElem h, bidG_app, getD_at l bi0 i h, bidG_cons]
  have : bidG p [] = 0 := rfl
  rw [this]; omega
theorem bidS_le {l : List Bi} (h : ∀ b ∈ l, okBi b = true) : 0 ≤ bidS l ∧ bidS l ≤ l.length * 1048576 := by
  induction l with
  | nil => exact ⟨Int.le_refl _, Int.le_refl _⟩
  | cons b l ih =>
    have h1 := (okBi_iff b).1 (h b (by simp))
    have h2 := ih (fun x hx => h x (List.mem_cons_of_mem _ hx))
    rw [bidS_cons, List.length_cons]
    omega
theorem bidG_le {l : List Bi} (p : Int → Int → Bool) (h : ∀ b ∈ l, okBi b = true) : 0 ≤ bidG p l ∧ bidG p l ≤ l.length * 1048576 := by
  induction l with
  | nil => exact ⟨Int.le_refl _, Int.le_refl _⟩
  | cons b l ih =>
    have h1 := (okBi_iff b).1 (h b (by simp))
    have h2 := ih (fun x hx => h x (List.mem_cons_of_mem _ hx))
    rw [bidG_cons, List.length_cons]
    split <;> omega
theorem filS_nonneg {l : List Fi} (h : ∀ x ∈ l, 1 ≤ x.2.1) : 0 ≤ filS l := by
  induction l with
  | nil => exact Int.le_refl _
  | cons b l ih =>
    have h1 := h b (by simp)
    have h2 := ih (fun x hx => h x (List.mem_cons_of_mem _ hx))
    rw [filS_cons]; omega
theorem filS_part {l : List Fi} (h : ∀ x ∈ l, 1 ≤ x.2.1) (i : Nat) : 0 ≤ filS (l.take i) ∧ filS (l.take i) ≤ filS l := by
  have h1 := filS_nonneg (l := l.take i) (fun x hx => h x (List.mem_of_mem_take hx))
  have h2 := filS_nonneg (l := l.drop i) (fun x hx => h x (List.mem_of_mem_drop hx))
  have h3 := filS_app (l.take i) (l.drop i)
  rw [List.take_append_drop] at h3
  omega
theorem filG_part {l : List Fi} (p : Int → Int → Bool) (h : ∀ x ∈ l, 1 ≤ x.2.1) (i : Nat) : 0 ≤ filG p (l.take i) ∧ filG p (l.take i) ≤ filS l := by
  have h0 : ∀ m : List Fi, (∀ x ∈ m, 1 ≤ x.2.1) → 0 ≤ filG p m ∧ filG p m ≤ filS m := by
    intro m
    induction m with
    | nil => intro _; exact ⟨Int.le_refl _, Int.le_refl _⟩
    | cons b m ih =>
      intro hm
      have h1 := hm b (by simp)
      have h2 := ih (fun x hx => hm x (List.mem_cons_of_mem _ hx))
      rw [filG_cons, filS_cons]
      split <;> omega
  have h1 := h0 (l.take i) (fun x hx => h x (List.mem_of_mem_take hx))
  have h2 := filS_part h i
  omega
theorem au_pos {q : Int} {l : List Bi} (h : auOK q l = true) : ∀ x ∈ auF q l, 1 ≤ x.2.1 := by
  unfold auF
  exact fill_pos _ _ (ord_pos (auOK_pos h))
theorem au_some {q : Int} {l : List Bi} (h : 0 < (auF q l).length) : q ≠ 0 := by
  intro hq
  subst hq
  unfold auF at h
  rw [show max (0 : Int) (-0) = 0 by omega, fill_zero] at h
  exact absurd h (Nat.lt_irrefl _)
end Go.Proofs.Ytahioajpmlochaa.NumK
namespace Go.Proofs.Ytahioajpmlochaa.NumK
open Go.RowKit

def RowI (w : World) (blk n : Nat) (d : Nat → Int) : Prop := blk < w.heap.size ∧ ∀ k, k < n → w.cell? ⟨blk, k, none⟩ = some (.int .i64 (d k)) ∧ w.frozen? ⟨blk, k, none⟩ = false

theorem RowI.keep {w w' : World} {blk n : Nat} {d : Nat → Int} (h : RowI w blk n d) (g : Grew w w') : RowI w' blk n d :=
  ⟨Nat.lt_of_lt_of_le h.1 g.size, fun k hk => ⟨(grew_cell g (p := ⟨blk, k, none⟩) h.1).trans (h.2 k hk).1, (Below.frozen g (p := ⟨blk, k, none⟩) h.1).trans (h.2 k hk).2⟩⟩
theorem RowI.turn {w w' : World} {blk b n : Nat} {d : Nat → Int} (h : RowI w blk n d) (g : Turn b w w') (hn : blk ≠ b) : RowI w' blk n d :=
  ⟨Nat.lt_of_lt_of_le h.1 g.size, fun k hk => ⟨(g.cell (p := ⟨blk, k, none⟩) h.1 hn).trans (h.2 k hk).1, (g.frozen (p := ⟨blk, k, none⟩) h.1 hn).trans (h.2 k hk).2⟩⟩

theorem RowI.set {w : World} {blk n : Nat} {d : Nat → Int} (h : RowI w blk n d) (i : Nat) (v : Int) : RowI (w.setCell ⟨blk, i, none⟩ (.int .i64 v)) blk n (fun k => if k = i then v else d k) := by
  refine ⟨by simp [World.setCell]; exact h.1, fun k hk => ⟨?_, ?_⟩⟩
  · by_cases c : k = i
    · subst c
      rw [World.cell?_setCell_same _ _ _ (h.2 k hk).1]; dsimp only; rw [if_pos rfl]
    · rw [World.cell?_setCell_other _ _ _ _ (by intro e; simp only [Addr.mk.injEq] at e; omega), (h.2 k hk).1]; dsimp only; rw [if_neg c]
  · rw [World.frozen?_setCell]; exact (h.2 k hk).2

theorem RowI.congr {w : World} {blk n : Nat} {d e : Nat → Int} (h : RowI w blk n d) (he : ∀ k, k < n → d k = e k) : RowI w blk n e :=
  ⟨h.1, fun k hk => by rw [← he k hk]; exact h.2 k hk⟩
theorem RowI.made (w : World) (t : TypeId) (n : Nat) : RowI (w.alloc (.cells (madeCells #[.int .i64 0] n) t)) w.heap.size n (fun _ => 0) := by
  refine ⟨by simp, fun k hk => ⟨?_, by simp⟩⟩
  rw [World.cell?_alloc_at _ _ _ _ rfl]
  simp [madeCells, hk, Nat.mod_one]

theorem RowI.ints {w : World} {blk n : Nat} {d : Nat → Int} (h : RowI w blk n d) : Ints w (some ⟨blk, 0, none⟩) n ((List.range n).map d) := by
  refine ⟨by simp, fun _ => ⟨blk, 0, rfl, h.1, fun j hj => ?_⟩⟩
  rw [Nat.zero_add, (h.2 j hj).1]
  simp [List.getD, hj]

end Go.Proofs.Ytahioajpmlochaa.NumK
