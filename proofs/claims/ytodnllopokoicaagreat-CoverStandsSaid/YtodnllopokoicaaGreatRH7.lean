/- A map of the call's own from accounts to sums of 128 bits. -/
import Derived.Test.YtodnllopokoicaaGreatRH6
import Derived.Test.YtodnllopokoicaaGreatRH3
import Derived.Maps.Own
import Derived.Maps.Views
import Derived.DeepKeys4
import Derived.Test.YtodnllopokoicaaGreatRH1
import Derived.Deep.QuietTactic
import Derived.Test.YtodnllopokoicaaGreatRH2
import Derived.Deep.Slices
import Derived.SizedLaws
namespace Go.Proofs.YtodnllopokoicaaGreat.NumK
open Go.RowKit Go.Maps

def inInt (n : Int) : Prop := -9223372036854775808 ≤ n ∧ n ≤ 9223372036854775807
def inAc (a : Ac) : Prop := inInt a.1 ∧ inInt a.2.1 ∧ inInt a.2.2
def readW (v : Value) : Option (DataW Unit × List MemPlace) :=
  match v with
  | .agg cs => match cs.toList with
    | [.int .i64 a, .int .u64 b] => some (.agg [.lit (.int .i64 a), .lit (.int .u64 b)], [])
    | _ => none
  | _ => none
def wD (s : Int) : DataW Unit := .agg [.lit (.int .i64 (hi64 s)), .lit (.int .u64 (lo64 s))]
/-- A block is a map of at most n entries that holds at each account what g says. -/
def MapS (w : World) (b n : Nat) (g : Ac → Int) : Prop :=
  ∃ D : DataW Unit, w.ownsMap Tryz.prog 53 readW b n D ∧ IsMap D ∧ ∀ a, inAc a → ∀ kl, keyOf Tryz.prog 53 (acV a.1 a.2.1 a.2.2) = some kl → D.atKey kl (wD 0) = wD (g a)

theorem MapS.keep {w w' : World} {b n : Nat} {g : Ac → Int} (h : MapS w b n g) (hg : Grew w w') : MapS w' b n g := by
  obtain ⟨D, h1, h2, h3⟩ := h
  refine ⟨D, ?_, h2, h3⟩
  have hlt := h1.lt
  obtain ⟨es, clock, hb, F, hs, hD⟩ := h1
  exact ⟨es, clock, (hg.block b hlt).trans hb, F, hs, hD⟩
theorem MapS.lt {w : World} {b n : Nat} {g : Ac → Int} (h : MapS w b n g) : b < w.heap.size := by
  obtain ⟨D, h1, _⟩ := h
  exact h1.lt
theorem MapS.new (w : World) : MapS (w.alloc (.map #[] 0)) w.heap.size 0 (fun _ => 0) := by
  refine ⟨.map [], World.ownsMap_made _ _ _ _, isMap_empty, fun a _ kl _ => ?_⟩
  simp [DataW.atKey]
theorem MapS.congr {w : World} {b n : Nat} {g g' : Ac → Int} (h : MapS w b n g) (e : ∀ a, g a = g' a) : MapS w b n g' := by
  have : g = g' := funext e
  exact this ▸ h

end Go.Proofs.YtodnllopokoicaaGreat.NumK
namespace Go.Proofs.YtodnllopokoicaaGreat.NumK
open Go.RowKit

theorem contains_snoc' (l : List Int) (y k : Int) : (l ++ [y]).contains k = (l.contains k || decide (y = k)) := by
  rw [Bool.eq_iff_iff]
  simp only [List.contains_iff_mem, List.mem_append, List.mem_singleton, Bool.or_eq_true, decide_eq_true_eq]
  constructor
  · rintro (h | h)
    · exact Or.inl h
    · exact Or.inr h.symm
  · rintro (h | h)
    · exact Or.inl h
    · exact Or.inr h.symm

end Go.Proofs.YtodnllopokoicaaGreat.NumK
namespace Go.Proofs.YtodnllopokoicaaGreat.NumK
open Go.RowKit

end Go.Proofs.YtodnllopokoicaaGreat.NumK
namespace Go.Proofs.YtodnllopokoicaaGreat.NumK
open Go.RowKit

def floorA (k m c : Int) : Int := if rightA k m c && (decide (k = 3) || decide (k = 4)) then 0 else -4611686018427387904
def lessA (k m c k' m' c' : Int) : Bool := if k = k' then if m = m' then decide (c < c') else decide (m < m') else decide (k < k')

theorem aless_any (k m c k' m' c' : Int) (w : World) : Calls Tryz.prog 115 #[acV k m c, acV k' m' c'] w fun e w' => e = .returned (.bool (lessA k m c k' m' c')) ∧ Grew w w' := by
  unfold acV
  go_enter Tryz.func115, Tryz.ntmps115
  go_wp2
  all_goals go_ret
  all_goals exact ⟨ret_b (by simp_all [lessA]), grew_trans (grew_alloc _ _ _) (grew_alloc _ _ _)⟩

theorem floor_any (k m c : Int) (w : World) : Calls Tryz.prog 114 #[acV k m c] w fun e w' => e = .returned (.int .i64 (floorA k m c)) ∧ Grew w w' := by
  have C := aright_any k m c
  have HF : Hid (floorA k m c = if rightA k m c && (decide (k = 3) || decide (k = 4)) then 0 else -4611686018427387904) := rfl
  generalize floorA k m c = F at *
  generalize rightA k m c = r at *
  unfold acV at *
  go_enter Tryz.func114, Tryz.ntmps114
  go_wp2_with (go_at_call 113; ((with_reducible refine (C _).mono ?_); rintro e w' ⟨rfl, hg⟩; have d0 : w'.cell? ⟨w.heap.size, 0, none⟩ = some (.int .i64 k) := own_cell hg 0; have HG := Lib.hid (own_back hg); clear hg))
  all_goals go_ret
  all_goals exact ⟨ret_i (by have := HF.out; simp_all), HG.out⟩

theorem refFloor_any (k m c : Int) (w : World) : Calls Tryz.prog 75 #[acV k m c] w fun e w' => e = .returned (.int .i64 (floorA k m c)) ∧ Grew w w' := by
  have C := r8right_any k m c
  have HF : Hid (floorA k m c = if rightA k m c && (decide (k = 3) || decide (k = 4)) then 0 else -4611686018427387904) := rfl
  generalize floorA k m c = F at *
  generalize rightA k m c = r at *
  unfold acV at *
  go_enter Tryz.func75, Tryz.ntmps75
  go_wp2_with (go_at_call 73; ((with_reducible refine (C _).mono ?_); rintro e w' ⟨rfl, hg⟩; have d0 : w'.cell? ⟨w.heap.size, 0, none⟩ = some (.int .i64 k) := own_cell hg 0; have HG := Lib.hid (own_back hg); clear hg))
  all_goals go_ret
  all_goals exact ⟨ret_i (by have := HF.out; simp_all), HG.out⟩

theorem refLess_any (k m c k' m' c' : Int) (w : World) : Calls Tryz.prog 76 #[acV k m c, acV k' m' c'] w fun e w' => e = .returned (.bool (lessA k m c k' m' c')) ∧ Grew w w' := by
  unfold acV
  go_enter Tryz.func76, Tryz.ntmps76
  go_wp2
  all_goals go_ret
  all_goals exact ⟨ret_b (by simp_all [lessA]), grew_trans (grew_alloc _ _ _) (grew_alloc _ _ _)⟩

end Go.Proofs.YtodnllopokoicaaGreat.NumK
namespace Go.Proofs.YtodnllopokoicaaGreat.NumK
open Go.RowKit

def rightsOf (l : List Ac) : List Ac := l.filter fun a => rightA a.1 a.2.1 a.2.2
def refWhos (k : Int) (n : Nat) : List Ac := (List.range n).flatMap fun i : Nat => rightsOf (whoAcs k i)
end Go.Proofs.YtodnllopokoicaaGreat.NumK
namespace Go.Proofs.YtodnllopokoicaaGreat.NumK
open Go.RowKit
set_option linter.unusedVariables false

/-- The trade as it stands in the book. -/
def asNo (t : Tr) (n : Int) : Tr := ((n, t.1.2), false)
def enterE (b : Bk) (t : Tr) : Int := if rightB b then (if numsT t then (if 128 ≤ b.2.1.length then 9 else (if b.1 = 1099511627776 then 1 else addE b (legsT t false))) else 3) else 14
def enterB (b : Bk) (t : Tr) : Bk := if enterE b t = 0 then (b.1 + 1, b.2.1 ++ [asNo t (b.1 + 1)], plA (addF b.2.2 (legsT t false))) else bk0
def enterN (b : Bk) (t : Tr) : Int := if enterE b t = 0 then b.1 + 1 else 0
theorem enterE_ok {b : Bk} {t : Tr} : enterE b t = 0 ↔ rightB b = true ∧ numsT t = true ∧ b.2.1.length < 128 ∧ b.1 ≠ 1099511627776 ∧ addE b (legsT t false) = 0 := by
  unfold enterE
  by_cases h1 : rightB b = true
  · rw [if_pos h1]
    by_cases h2 : numsT t = true
    · rw [if_pos h2]
      by_cases h3 : 128 ≤ b.2.1.length
      · rw [if_pos h3]; exact ⟨fun h => absurd h (by decide), fun h => absurd h.2.2.1 (by omega)⟩
      · rw [if_neg h3]
        by_cases h4 : b.1 = 1099511627776
        · rw [if_pos h4]; exact ⟨fun h => absurd h (by decide), fun h => absurd h4 h.2.2.2.1⟩
        · rw [if_neg h4]; exact ⟨fun h => ⟨h1, h2, by omega, h4, h⟩, fun h => h.2.2.2.2⟩
    · rw [if_neg h2]; exact ⟨fun h => absurd h (by decide), fun h => absurd h.2.1 h2⟩
  · rw [if_neg h1]; exact ⟨fun h => absurd h (by decide), fun h => absurd h.1 h1⟩
theorem enterB_ok {b : Bk} {t : Tr} (h : enterE b t = 0) : enterB b t = (b.1 + 1, b.2.1 ++ [asNo t (b.1 + 1)], plA (addF b.2.2 (legsT t false))) := by unfold enterB; rw [if_pos h]
theorem enterN_ok {b : Bk} {t : Tr} (h : enterE b t = 0) : enterN b t = b.1 + 1 := by unfold enterN; rw [if_pos h]

/-- A trade with that number that is not off. -/
def liveT (no : Int) (t : Tr) : Bool := decide (t.1.1 = no) && !t.2
def theT (l : List Tr) (no : Int) : Tr := (l.find? (liveT no)).getD tr0
def offT (no : Int) (t : Tr) : Tr := if liveT no t then (t.1, true) else t
def offL (l : List Tr) (no : Int) : List Tr := l.map (offT no)
def cancelE (b : Bk) (no : Int) : Int := if rightB b then (if b.2.1.any (liveT no) then addE b (legsT (theT b.2.1 no) true) else 10) else 14
def cancelB (b : Bk) (no : Int) : Bk := if cancelE b no = 0 then (b.1, offL b.2.1 no, plA (addF b.2.2 (legsT (theT b.2.1 no) true))) else bk0
/-- Then enter the same at other terms. -/
def termsT (t : Tr) (q p : Int) : Tr := ((t.1.1, t.1.2.1, t.1.2.2.1, t.1.2.2.2.1, q, p), t.2)
def corrE (b : Bk) (no q p : Int) : Int := if cancelE b no = 0 then enterE (cancelB b no) (termsT (theT b.2.1 no) q p) else cancelE b no
def corrB (b : Bk) (no q p : Int) : Bk := if cancelE b no = 0 then enterB (cancelB b no) (termsT (theT b.2.1 no) q p) else bk0
def corrN (b : Bk) (no q p : Int) : Int := if cancelE b no = 0 then enterN (cancelB b no) (termsT (theT b.2.1 no) q p) else 0
def clearB (b : Bk) : Bk := (b.1, [], b.2.2)

/-! ### what is right stays so -/
theorem right_enter {b : Bk} {t : Tr} (h : enterE b t = 0) : rightB (enterB b t) = true := by
  obtain ⟨h1, h2, h3, h4, h5⟩ := enterE_ok.1 h
  rw [enterB_ok h]
  obtain ⟨g1, ⟨⟨g2, g3⟩, g4⟩, g5⟩ := (rightB_iff b).1 h1
  obtain ⟨_, a2, a3, a4⟩ := addE_ok.1 h5
  refine (rightB_iff _).2 ⟨by simp only; omega, ⟨⟨fun x hx => ?_, ?_⟩, ?_⟩, right_addP g5 a2 a3 a4⟩
  · simp only at hx ⊢
    rcases List.mem_append.1 hx with hx | hx
    · have := g2 x hx
      unfold okTr at this ⊢
      rw [Bool.and_eq_true, wi_iff] at this ⊢
      exact ⟨this.1, this.2.1, by omega⟩
    · obtain rfl := List.mem_singleton.1 hx
      unfold okTr
      rw [Bool.and_eq_true, wi_iff]
      refine ⟨by rw [nums_bare (t := asNo t (b.1 + 1)) (u := t) rfl]; exact h2, ?_⟩
      show 1 ≤ b.1 + 1 ∧ b.1 + 1 ≤ b.1 + 1
      omega
  · simp only
    unfold Rise
    rw [List.pairwise_append]
    refine ⟨g3, by simp, fun x hx y hy => ?_⟩
    obtain rfl := List.mem_singleton.1 hy
    have := g2 x hx
    unfold okTr at this
    rw [Bool.and_eq_true, wi_iff] at this
    show x.1.1 < b.1 + 1
    omega
  · simp only [List.length_append, List.length_cons, List.length_nil]; omega
theorem right_clear {b : Bk} (h : rightB b = true) : rightB (clearB b) = true := by
  obtain ⟨g1, ⟨⟨g2, g3⟩, g4⟩, g5⟩ := (rightB_iff b).1 h
  exact (rightB_iff _).2 ⟨g1, ⟨⟨fun x hx => absurd hx (by simp [clearB]), List.Pairwise.nil⟩, by simp [clearB]⟩, g5⟩
theorem right_zero : rightB bk0 = true := by decide +kernel

/-- Costs add up to 0, too; and few have been entered. -/
structure GB (b : Bk) (k : Nat) : Prop where
  right : rightB b = true
  cost : ∀ n : Int, 1 ≤ n → n ≤ 8 → cI b.2.2 n = 0
  next : b.1 ≤ k
theorem GB.poss {b : Bk} {k : Nat} (h : GB b k) : rightPs b.2.2 = true := ((rightB_iff b).1 h.right).2.2
theorem GB.zero : GB bk0 0 := ⟨right_zero, fun _ _ _ => rfl, by decide⟩
theorem GB.mono {b : Bk} {k m : Nat} (h : GB b k) (hm : k ≤ m) : GB b m := ⟨h.right, h.cost, by have := h.next; omega⟩
theorem cost_add {l legs : List Po} (hl : rightPs l = true) (hg : legs.all okLeg = true) (h1 : ∀ n : Int, 1 ≤ n → n ≤ 8 → cI l n = 0) (h2 : ∀ n, cI legs n = 0) : ∀ n : Int, 1 ≤ n → n ≤ 8 → cI (plA (addF l legs)) n = 0 := fun n n1 n2 => by
  rw [cI_add (right_keys hl) (leg_keys hg) n n1 n2, h1 n n1 n2, h2 n]; rfl
theorem GB.enter {b : Bk} {k : Nat} {t : Tr} (h : GB b k) (he : enterE b t = 0) : GB (enterB b t) (k + 1) := by
  obtain ⟨h1, h2, h3, h4, h5⟩ := enterE_ok.1 he
  obtain ⟨_, a2, a3, a4⟩ := addE_ok.1 h5
  refine ⟨right_enter he, ?_, ?_⟩
  · rw [enterB_ok he]; exact cost_add h.poss a2 h.cost fun n => cI_legs t false n
  · rw [enterB_ok he]; have := h.next; simp only; omega
theorem GB.clear {b : Bk} {k : Nat} (h : GB b k) : GB (clearB b) k := ⟨right_clear h.right, h.cost, h.next⟩

/-- The sums of an instrument's positions. -/
def bothOK (l : List Po) (n : Int) : Bool := (l.filter (isI n)).all okAm && (isMoney (qI l n) && isMoney (cI l n))
def bothQ (l : List Po) (n : Int) : Int := if bothOK l n then qI l n else 0
def bothC (l : List Po) (n : Int) : Int := if bothOK l n then cI l n else 0
theorem GB.both {b : Bk} {k : Nat} (h : GB b k) (n : Int) (n1 : 1 ≤ n) (n2 : n ≤ 8) : bothQ b.2.2 n = 0 ∧ bothC b.2.2 n = 0 := by
  unfold bothQ bothC
  rw [((rightPs_iff _).1 h.poss).2.2 n n1 n2, h.cost n n1 n2]
  constructor <;> split <;> rfl

/-! ### there and back -/
theorem fits_congr {f g : Ky → Int × Int} (h : ∀ k, okK k = true → f k = g k) : fits f = fits g := by
  rw [Bool.eq_iff_iff, fits_iff, fits_iff]
  constructor
  · intro h2 k hk; rw [← h k hk]; exact h2 k hk
  · intro h2 k hk; rw [h k hk]; exact h2 k hk
end Go.Proofs.YtodnllopokoicaaGreat.NumK
namespace Go.Proofs.YtodnllopokoicaaGreat.NumK
open Go.RowKit
set_option linter.unusedVariables false

/-! ### parts -/
/-! ### entered one behind the other -/
def entS (b : Bk) (t : Tr) : Bk := if enterE b t = 0 then enterB b t else b
def entL (l : List Tr) : Bk := l.foldl entS bk0
def legsOf (l : List Tr) : List Po := (l.filter numsT).flatMap fun t => legsT t false
theorem legsOf_app (l m : List Tr) : legsOf (l ++ m) = legsOf l ++ legsOf m := by unfold legsOf; rw [List.filter_append, List.flatMap_append]
theorem legsOf_one {t : Tr} (h : numsT t = true) : legsOf [t] = legsT t false := by unfold legsOf; simp [h]
theorem legsOf_no {t : Tr} (h : numsT t = false) : legsOf [t] = [] := by unfold legsOf; simp [h]
def cntT (l : List Tr) : Nat := (l.filter numsT).length
theorem cnt_app (l m : List Tr) : cntT (l ++ m) = cntT l + cntT m := by unfold cntT; rw [List.filter_append, List.length_append]
theorem small_legs : ∀ (l : List Tr) (k : Ky), wm (qK (legsOf l) k) (l.length * 1048576) ∧ wm (cK (legsOf l) k) (l.length * 1125899906842624)
  | [], k => by unfold wm; exact ⟨by simp [legsOf, qK_nil], by simp [legsOf, cK_nil]⟩
  | t :: l, k => by
    obtain ⟨h1, h2⟩ := small_legs l k
    have e : legsOf (t :: l) = legsOf [t] ++ legsOf l := legsOf_app [t] l
    rw [e, qK_app, cK_app, List.length_cons]
    unfold wm at *
    by_cases h : numsT t = true
    · obtain ⟨s1, s2⟩ := qK_small h false k
      unfold wm at s1 s2
      rw [legsOf_one h]
      omega
    · rw [legsOf_no (by simpa using h), qK_nil, cK_nil]
      omega
/-- What stands behind them. -/
structure EntP (l : List Tr) (b : Bk) : Prop where
  right : rightB b = true
  next : b.1 = cntT l
  len : b.2.1.length = cntT l
  poss : b.2.2 = plA (sumK2 (legsOf l))
theorem EntP.nil : EntP [] bk0 := ⟨right_zero, rfl, rfl, by decide +kernel⟩
theorem ent_add (l m : List Po) : ∀ k, okK k = true → addF (plA (sumK2 l)) m k = sumK2 (l ++ m) k := fun k hk => by
  have := sum_pl (sumK2 l) k hk
  unfold sumK2 at this ⊢
  simp only [Prod.mk.injEq] at this
  unfold addF
  rw [qK_app, cK_app, this.1, this.2]
theorem fits_small {f : Ky → Int × Int} (h : ∀ k, wm (f k).1 (1000 * 1048576) ∧ wm (f k).2 (1000 * 1125899906842624)) : fits f = true := (fits_iff f).2 fun k _ => by
  obtain ⟨h1, h2⟩ := h k
  unfold wm at h1 h2
  rw [okQ_iff, isMoney_iff]
  omega
theorem EntP.may {l : List Tr} {b : Bk} (h : EntP l b) (hl : l.length ≤ 400) {t : Tr} (ht : numsT t = true) (hc : cntT l < 128) : enterE b t = 0 := by
  have hn := h.next
  have hlen := h.len
  refine enterE_ok.2 ⟨h.right, ht, by omega, by omega, addE_ok.2 ⟨h.right, legs_ok ht false, legs_flatI t false, ?_⟩⟩
  rw [h.poss, fits_congr (ent_add _ _)]
  refine fits_small fun k => ?_
  obtain ⟨a1, a2⟩ := small_legs l k
  obtain ⟨b1, b2⟩ := qK_small ht false k
  unfold sumK2
  simp only
  rw [qK_app, cK_app]
  unfold wm at *
  omega
theorem EntP.step {l : List Tr} {b : Bk} (h : EntP l b) {t : Tr} (he : enterE b t = 0) : EntP (l ++ [t]) (enterB b t) := by
  obtain ⟨h1, h2, h3, h4, h5⟩ := enterE_ok.1 he
  have hr := right_enter he
  rw [enterB_ok he] at hr ⊢
  have e1 : cntT [t] = 1 := by unfold cntT; simp [h2]
  refine ⟨hr, ?_, ?_, ?_⟩
  · show b.1 + 1 = _
    rw [h.next, cnt_app, e1]; omega
  · show (b.2.1 ++ [_]).length = _
    rw [List.length_append, h.len, cnt_app, e1]; rfl
  · show plA _ = _
    rw [legsOf_app, legsOf_one h2, h.poss]
    exact pl_congr (ent_add _ _)
theorem EntP.skip {l : List Tr} {b : Bk} (h : EntP l b) {t : Tr} (ht : numsT t = false) : EntP (l ++ [t]) b := by
  have e1 : cntT [t] = 0 := by unfold cntT; simp [ht]
  refine ⟨h.right, by rw [h.next, cnt_app, e1]; omega, by rw [h.len, cnt_app, e1, Nat.add_zero], by rw [h.poss, legsOf_app, legsOf_no ht, List.append_nil]⟩
/-! ### a book that is full -/
structure FullP (t : Tr) (i : Nat) (b : Bk) : Prop where
  ent : EntP (List.replicate i t) b
  trades : b.2.1 = (List.range i).map fun j : Nat => asNo t ((j : Int) + 1)
theorem FullP.zero (t : Tr) : FullP t 0 bk0 := ⟨EntP.nil, rfl⟩
theorem cnt_rep {t : Tr} (ht : numsT t = true) (i : Nat) : cntT (List.replicate i t) = i := by unfold cntT; rw [List.filter_replicate, ht]; simp
theorem FullP.may {t : Tr} {i : Nat} {b : Bk} (h : FullP t i b) (ht : numsT t = true) (hi : i < 128) : enterE b t = 0 ∧ enterN b t = (i : Int) + 1 ∧ FullP t (i + 1) (enterB b t) := by
  have he := h.ent.may (by rw [List.length_replicate]; omega) ht (by rw [cnt_rep ht]; exact hi)
  have hn := h.ent.next
  rw [cnt_rep ht] at hn
  refine ⟨he, by rw [enterN_ok he, hn], ?_, ?_⟩
  · have := h.ent.step he
    rw [show List.replicate (i + 1) t = List.replicate i t ++ [t] from List.replicate_succ']
    exact this
  · rw [enterB_ok he]
    show b.2.1 ++ [asNo t (b.1 + 1)] = _
    rw [h.trades, hn, List.range_succ, List.map_append]; rfl
theorem FullP.full {t : Tr} {b : Bk} (h : FullP t 128 b) (ht : numsT t = true) (u : Tr) (hu : numsT u = true) : enterE b u = 9 := by
  have hl := h.ent.len
  rw [cnt_rep ht] at hl
  unfold enterE
  rw [if_pos h.ent.right, if_pos hu, if_pos (by omega)]
theorem FullP.clear {t : Tr} {b : Bk} (h : FullP t 128 b) (ht : numsT t = true) : enterE (clearB b) t = 0 ∧ enterN (clearB b) t = 129 ∧ (enterB (clearB b) t).2.1.length = 1 := by
  have hn := h.ent.next
  rw [cnt_rep ht] at hn
  have hr := right_clear h.ent.right
  have he : enterE (clearB b) t = 0 := by
    refine enterE_ok.2 ⟨hr, ht, by simp [clearB], by show b.1 ≠ _; omega, addE_ok.2 ⟨hr, legs_ok ht false, legs_flatI t false, ?_⟩⟩
    show fits (addF b.2.2 _) = true
    rw [h.ent.poss, fits_congr (ent_add _ _)]
    refine fits_small fun k => ?_
    obtain ⟨a1, a2⟩ := small_legs (List.replicate 128 t) k
    obtain ⟨b1, b2⟩ := qK_small ht false k
    rw [List.length_replicate] at a1 a2
    unfold sumK2
    simp only
    rw [qK_app, cK_app]
    unfold wm at *
    omega
  refine ⟨he, ?_, ?_⟩
  · rw [enterN_ok he]; show b.1 + 1 = 129; omega
  · rw [enterB_ok he]; rfl
end Go.Proofs.YtodnllopokoicaaGreat.NumK
namespace Go.Proofs.YtodnllopokoicaaGreat.NumK
open Go.RowKit

/-! ### rows of wide numbers -/
def enWd : En Int := ⟨2, fun x => [.int .i64 (hi64 x), .int .u64 (lo64 x)], fun _ => rfl, fun a v hv => by
  simp at hv; rcases hv with rfl | rfl <;> rfl, by decide⟩
theorem wides_of_E {w : World} {A : Option Addr} {n : Nat} {l : List Int} (h : RowE enWd w A n l) : Wides w A n l := by
  refine ⟨h.len, fun hn => ?_⟩
  obtain ⟨b, o, e, hb, hc⟩ := h.at hn
  refine ⟨b, o, e, hb, fun j hj => ?_⟩
  have hj' : j < l.length := by rw [h.len]; exact hj
  rw [getD_at l 0 j hj']
  exact ⟨hc j hj' 0 (by decide), hc j hj' 1 (by decide)⟩
end Go.Proofs.YtodnllopokoicaaGreat.NumK
namespace Go.Proofs.YtodnllopokoicaaGreat.NumK
open Go.RowKit Go.ChangeShapes Go.WideShapes

abbrev spAcct : Sp Ac := spPair (spInt .i64) (spPair (spInt .i64) (spInt .i64))
theorem opens_acct : Opens Tryz.prog 53 spAcct :=
  opens_struct Tryz.underlying53 (by kernel_rfl)
    (Fs.cons _ _ 0 rfl (opens_int Tryz.underlying3 (by kernel_rfl)) (Fs.cons _ _ 1 rfl (opens_int Tryz.underlying3 (by kernel_rfl)) (Fs.last _ 2 rfl (opens_int Tryz.underlying3 (by kernel_rfl)))))
end Go.Proofs.YtodnllopokoicaaGreat.NumK
namespace Go.Proofs.YtodnllopokoicaaGreat.NumK
open Go.RowKit

def OpensZ (P : Program) (t : TypeId) {α : Type} (A : Sp α) : Prop :=
  P.cellsOf t = A.size ∧ ∀ {H : Type} (enc : TypeId × Value → H) (w : World) (held : Bool) (fuel : Nat) (cs : List Value) (x : DataW H × List MemPlace), DataW.trod enc P w 0 (fun _ => true) held fuel t cs = some x → (∀ n ∈ x.1.weights P t, n ≤ reachBytes) → ∃ a, A.rd w cs a
theorem Opens.sized {P : Program} {t : TypeId} {α : Type} {A : Sp α} (h : Opens P t A) : OpensZ P t A := ⟨h.1, fun enc w held fuel cs x hx _ => h.2 enc w held fuel cs x hx⟩

def spSliceZ {α : Type} (B : Nat) (A : Sp α) : Sp (List α) :=
  ⟨1, fun w cs l => ∃ ad n c, cs = [.slice ad n c] ∧ Row A w ad n l ∧ (ad = none → c = 0) ∧ n ≤ c ∧ c ≤ maxLen ∧ c * B ≤ reachBytes, fun ⟨_, _, _, e, _⟩ => by rw [e]; rfl,
    fun ⟨ad, n, c, e, h, r⟩ g => ⟨ad, n, c, e, h.keep g, r⟩⟩

theorem weightsAll_mem {H : Type} {P : Program} {e : TypeId} {l : List (DataW H)} {d : DataW H} (hd : d ∈ l) {n : Nat} (hn : n ∈ d.weights P e) : n ∈ DataW.weightsAll P e l := by
  induction l with
  | nil => cases hd
  | cons x r ih =>
    simp only [DataW.weightsAll, List.mem_append]
    rcases List.mem_cons.1 hd with rfl | h
    · exact Or.inl hn
    · exact Or.inr (ih h)

theorem opensZ_slice {P : Program} {t e : TypeId} {α : Type} [Inhabited α] {A : Sp α} (B : Nat) (ht : P.underlying t = some (.slice e)) (hc : P.cellsOf t = 1) (hB : P.bytesOf e = B) (he : OpensZ P e A) (hz : A.size ≠ 0) : OpensZ P t (spSliceZ B A) := by
  refine ⟨hc, fun enc w held fuel cs x h hw => ?_⟩
  rcases Go.Deep.open_slice ht h with ⟨rfl, _⟩ | ⟨a, len, cap, m, n, D, Pl, rfl, _, hl, hm, hmm, hx0, hx⟩
  · exact ⟨[], none, 0, 0, rfl, Row.nil A w none, fun _ => rfl, Nat.le_refl _, by unfold maxLen; omega, by unfold reachBytes; omega⟩
  · simp only [if_true] at hmm
    subst hmm
    subst hx0
    have hwB : m * B ≤ reachBytes := by
      have := hw ((((List.range len).map D).length + ((List.range (m - len)).map fun j => D (len + j)).length) * P.bytesOf e) (by simp [DataW.weights, ht])
      rw [hB] at this
      simp only [List.length_map, List.length_range] at this
      rwa [show len + (m - len) = m by omega] at this
    have hwD : ∀ i, i < m → ∀ k ∈ (D i).weights P e, k ≤ reachBytes := by
      intro i hi k hk
      refine hw k ?_
      simp only [DataW.weights, ht, List.mem_cons, List.mem_append]
      refine Or.inr ?_
      by_cases hil : i < len
      · exact Or.inl (weightsAll_mem (d := D i) (List.mem_map.2 ⟨i, by simpa using hil, rfl⟩) hk)
      · exact Or.inr (weightsAll_mem (d := D i) (List.mem_map.2 ⟨i - len, by simp; omega, by rw [show len + (i - len) = i by omega]⟩) hk)
    have each : ∀ i, i < m → ∃ y, ∃ cs, A.rd w cs y ∧ ∀ k, k < A.size → w.cell? ((a.add (i * A.size)).add k) = cs[k]? := by
      intro i hi
      obtain ⟨cs', h1, h2⟩ := hx i hi
      rw [he.1] at h1
      obtain ⟨_, hlen, hcell⟩ := World.cells?_some h1
      obtain ⟨y, hy⟩ := he.2 enc w held n cs' _ h2 (hwD i hi)
      exact ⟨y, cs', hy, hcell⟩
    obtain ⟨f, hf⟩ := Go.Deep.choose_lt each
    refine ⟨(List.range len).map f, some a, len, m, rfl, ⟨by simp, fun h0 => ?_⟩, fun h => by (cases h), hl, hm, hwB⟩
    obtain ⟨b, o, spot⟩ := a
    obtain ⟨cs0, h1, h2⟩ := hf 0 (by omega)
    have h3 := h2 0 (by omega)
    have hl0 := A.len h1
    have h4 : w.cell? ⟨b, o, spot⟩ = some cs0[0] := by
      rw [List.getElem?_eq_getElem (by omega)] at h3
      simpa [Addr.add] using h3
    have hspot : spot = none := by simpa using World.cell?_spot h4
    subst hspot
    refine ⟨b, o, rfl, by simpa using World.block_lt_of_cell? w _ h4, fun j hj => ?_⟩
    obtain ⟨cs', g1, g2⟩ := hf j (by simp at hj; omega)
    refine ⟨cs', by simpa using g1, fun i hi => ?_⟩
    rw [← g2 i hi, addr_add, addr_add]

end Go.Proofs.YtodnllopokoicaaGreat.NumK
