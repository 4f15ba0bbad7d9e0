/- Dues, netted: one for each who and currency. -/
import Derived.Test.YtlmnbafklefmcaaRG1
import Derived.OpenShut
import Derived.ChangeArms
import Derived.Deep.Slices
import Derived.Laws.AppendOwnNone
import Derived.Deep.QuietTactic
import Derived.BigQuiet
import Derived.Deep.DeepCutAuto
import Derived.Deep.Light
import Derived.BigRegion
import Derived.Deep.CutBlock
import Derived.Laws.Bits64b
import Derived.Laws.OwnMore
import Derived.Deep.RegionLaw
import Derived.Lib.Mul64
namespace Go.Proofs.Ytlmnbafklefmcaa.NumK
set_option linter.unusedVariables false

abbrev Dn := Int × Int × Int
abbrev Dk := Int × Int
def keyD (d : Dn) : Dk := (d.1, d.2.1)
def ltK (a b : Dk) : Prop := a.1 < b.1 ∨ (a.1 = b.1 ∧ a.2 < b.2)
instance (a b : Dk) : Decidable (ltK a b) := inferInstanceAs (Decidable (_ ∨ _))
theorem ltK_irr (a : Dk) : ¬ ltK a a := by unfold ltK; omega
theorem ltK_trans {a b c : Dk} (h : ltK a b) (k : ltK b c) : ltK a c := by unfold ltK at *; omega
theorem ltK_tri (a b : Dk) : ltK a b ∨ a = b ∨ ltK b a := by
  obtain ⟨a1, a2⟩ := a
  obtain ⟨b1, b2⟩ := b
  unfold ltK
  simp only [Prod.mk.injEq]
  omega

/-- Two lists that rise, and have the same in them, are one. -/
theorem extR {α : Type} (lt : α → α → Prop) (irr : ∀ a, ¬ lt a a) (tr : ∀ a b c, lt a b → lt b c → lt a c) : ∀ l m : List α, l.Pairwise lt → m.Pairwise lt → (∀ y, y ∈ l ↔ y ∈ m) → l = m
  | [], [], _, _, _ => rfl
  | [], y :: m, _, _, h => by have := (h y).2 (by simp); simp at this
  | x :: l, [], _, _, h => by have := (h x).1 (by simp); simp at this
  | x :: l, y :: m, hl, hm, h => by
    have h1 := List.pairwise_cons.1 hl
    have h2 := List.pairwise_cons.1 hm
    have hxy : x = y := by
      rcases List.mem_cons.1 ((h x).1 (by simp)) with e | a1
      · exact e
      · rcases List.mem_cons.1 ((h y).2 (by simp)) with e | a2
        · exact e.symm
        · exact absurd (tr _ _ _ (h2.1 x a1) (h1.1 y a2)) (irr _)
    subst hxy
    congr 1
    refine extR lt irr tr l m h1.2 h2.2 fun z => ⟨fun hz => ?_, fun hz => ?_⟩
    · rcases List.mem_cons.1 ((h z).1 (List.mem_cons_of_mem _ hz)) with e | e
      · have := h1.1 z hz; rw [e] at this; exact absurd this (irr _)
      · exact e
    · rcases List.mem_cons.1 ((h z).2 (List.mem_cons_of_mem _ hz)) with e | e
      · have := h2.1 z hz; rw [e] at this; exact absurd this (irr _)
      · exact e

/-! ### the keys, in their order -/
def insK (k : Dk) : List Dk → List Dk
  | [] => [k]
  | x :: l => if ltK k x then k :: x :: l else if k = x then x :: l else x :: insK k l
theorem mem_ins (k y : Dk) : ∀ l, y ∈ insK k l ↔ y = k ∨ y ∈ l
  | [] => by simp [insK]
  | x :: l => by
    unfold insK
    by_cases h1 : ltK k x
    · rw [if_pos h1]; simp
    · rw [if_neg h1]
      by_cases h2 : k = x
      · rw [if_pos h2]; subst h2; simp
      · rw [if_neg h2, List.mem_cons, mem_ins k y l, List.mem_cons]
        constructor
        · rintro (h | h | h)
          · exact Or.inr (Or.inl h)
          · exact Or.inl h
          · exact Or.inr (Or.inr h)
        · rintro (h | h | h)
          · exact Or.inr (Or.inl h)
          · exact Or.inl h
          · exact Or.inr (Or.inr h)
theorem rise_ins (k : Dk) : ∀ l, l.Pairwise ltK → (insK k l).Pairwise ltK
  | [], _ => by simp [insK]
  | x :: l, h => by
    have h0 := List.pairwise_cons.1 h
    unfold insK
    by_cases h1 : ltK k x
    · rw [if_pos h1]
      refine List.pairwise_cons.2 ⟨fun y hy => ?_, h⟩
      rcases List.mem_cons.1 hy with rfl | hy
      · exact h1
      · exact ltK_trans h1 (h0.1 y hy)
    · rw [if_neg h1]
      by_cases h2 : k = x
      · rw [if_pos h2]; exact h
      · rw [if_neg h2]
        refine List.pairwise_cons.2 ⟨fun y hy => ?_, rise_ins k l h0.2⟩
        rcases (mem_ins k y l).1 hy with rfl | hy
        · rcases ltK_tri y x with h3 | h3 | h3
          · exact absurd h3 h1
          · exact absurd h3 h2
          · exact h3
        · exact h0.1 y hy
theorem len_ins (k : Dk) : ∀ l, (insK k l).length ≤ l.length + 1
  | [] => by simp [insK]
  | x :: l => by
    unfold insK
    split
    · simp
    · split
      · simp
      · have := len_ins k l; simp; omega
def keysD (l : List Dn) : List Dk := l.foldr (fun d ks => insK (keyD d) ks) []
theorem mem_keys (l : List Dn) (k : Dk) : k ∈ keysD l ↔ ∃ d ∈ l, keyD d = k := by
  induction l with
  | nil => simp [keysD]
  | cons d l ih =>
    show k ∈ insK (keyD d) (keysD l) ↔ _
    rw [mem_ins, ih]
    simp only [List.mem_cons, exists_eq_or_imp]
    constructor
    · rintro (h | h)
      · exact Or.inl h.symm
      · exact Or.inr h
    · rintro (h | h)
      · exact Or.inl h.symm
      · exact Or.inr h
theorem rise_keysD (l : List Dn) : (keysD l).Pairwise ltK := by
  induction l with
  | nil => exact List.Pairwise.nil
  | cons d l ih => exact rise_ins _ _ ih
theorem len_keys (l : List Dn) : (keysD l).length ≤ l.length := by
  induction l with
  | nil => exact Nat.le_refl _
  | cons d l ih => have := len_ins (keyD d) (keysD l); show (insK (keyD d) (keysD l)).length ≤ _; rw [List.length_cons]; omega
/-! ### sums -/
def isD (k : Dk) (d : Dn) : Bool := decide (d.1 = k.1) && decide (d.2.1 = k.2)
theorem isD_iff (k : Dk) (d : Dn) : isD k d = true ↔ keyD d = k := by
  obtain ⟨a, b⟩ := k
  unfold isD keyD
  simp
def grossV (l : List Dn) (k : Dk) : Int := ((l.filter (isD k)).map (·.2.2)).sum
theorem dsum_app (l m : List Int) : (l ++ m).sum = l.sum + m.sum := by
  induction l with
  | nil => simp
  | cons x l ih => rw [List.cons_append, List.sum_cons, List.sum_cons, ih, Int.add_assoc]
theorem gross_nil (k : Dk) : grossV [] k = 0 := rfl
theorem gross_app (l m : List Dn) (k : Dk) : grossV (l ++ m) k = grossV l k + grossV m k := by unfold grossV; rw [List.filter_append, List.map_append, dsum_app]
theorem gross_cons (d : Dn) (l : List Dn) (k : Dk) : grossV (d :: l) k = (if isD k d then d.2.2 else 0) + grossV l k := by
  unfold grossV; rw [List.filter_cons]; split
  · rw [List.map_cons, List.sum_cons]
  · simp
theorem gross_rev : ∀ (l : List Dn) (k : Dk), grossV l.reverse k = grossV l k
  | [], _ => rfl
  | d :: l, k => by rw [List.reverse_cons, gross_app, gross_rev l k, gross_cons, gross_cons, gross_nil]; omega
theorem gross_out {l : List Dn} {k : Dk} (h : ∀ d ∈ l, keyD d ≠ k) : grossV l k = 0 := by
  have : l.filter (isD k) = [] := by rw [List.filter_eq_nil_iff]; intro d hd he; exact h d hd ((isD_iff k d).1 he)
  unfold grossV; rw [this]; rfl
def okD (d : Dn) : Bool := isMoney d.2.2
def grossE (l : List Dn) (k : Dk) : Int := if l.all okD then (if isMoney (grossV l k) then 0 else 1) else 3
def netE (l : List Dn) : Int := if l.all okD then (if (keysD l).all (fun k => isMoney (grossV l k)) then 0 else 1) else 3
def netO (l : List Dn) (k : Dk) : Option Dn := if grossV l k = 0 then none else some (k.1, k.2, grossV l k)
def netF (l : List Dn) : List Dn := (keysD l).filterMap (netO l)
def netL (l : List Dn) : List Dn := if netE l = 0 then netF l else []
theorem netE_ok {l : List Dn} : netE l = 0 ↔ l.all okD = true ∧ ∀ k, isMoney (grossV l k) = true := by
  unfold netE
  by_cases h1 : l.all okD = true
  · rw [if_pos h1]
    by_cases h2 : (keysD l).all (fun k => isMoney (grossV l k)) = true
    · rw [if_pos h2]
      refine ⟨fun _ => ⟨h1, fun k => ?_⟩, fun _ => rfl⟩
      by_cases hk : k ∈ keysD l
      · exact List.all_eq_true.1 h2 k hk
      · rw [gross_out fun d hd he => hk ((mem_keys l k).2 ⟨d, hd, he⟩)]; decide
    · rw [if_neg h2]
      exact ⟨fun h => absurd h (by decide), fun h => absurd (List.all_eq_true.2 fun k _ => h.2 k) h2⟩
  · rw [if_neg h1]; exact ⟨fun h => absurd h (by decide), fun h => absurd h.1 h1⟩
theorem netL_ok {l : List Dn} (h : netE l = 0) : netL l = netF l := by unfold netL; rw [if_pos h]
theorem mem_net (l : List Dn) (y : Dn) : y ∈ netF l ↔ y.2.2 = grossV l (keyD y) ∧ y.2.2 ≠ 0 := by
  unfold netF
  rw [List.mem_filterMap]
  constructor
  · rintro ⟨k, hk, e⟩
    unfold netO at e
    split at e
    · cases e
    · next h => cases e; exact ⟨rfl, h⟩
  · rintro ⟨h1, h2⟩
    refine ⟨keyD y, ?_, ?_⟩
    · rw [mem_keys]
      by_cases hc : ∃ d ∈ l, keyD d = keyD y
      · exact hc
      · rw [gross_out fun d hd he => hc ⟨d, hd, he⟩] at h1; exact absurd h1 h2
    · unfold netO
      rw [← h1, if_neg h2]; rfl
def ltD (a b : Dn) : Prop := ltK (keyD a) (keyD b)
theorem rise_net (l : List Dn) : (netF l).Pairwise ltD := by
  unfold netF
  rw [List.pairwise_filterMap]
  refine List.Pairwise.imp (fun {a b} h x hx y hy => ?_) (rise_keysD l)
  unfold netO at hx hy
  split at hx
  · cases hx
  · split at hy
    · cases hy
    · cases hx; cases hy; exact h
theorem net_ext {l m : List Dn} (h : ∀ k, grossV l k = grossV m k) : netF l = netF m :=
  extR ltD (fun a => ltK_irr _) (fun _ _ _ => ltK_trans) _ _ (rise_net l) (rise_net m) fun y => by rw [mem_net, mem_net, h]
theorem len_net (l : List Dn) : (netF l).length ≤ l.length := Nat.le_trans (List.length_filterMap_le _ _) (len_keys l)
theorem net_one (l : List Dn) (y : Dn) (hy : y ∈ netF l) : (netF l).filter (isD (keyD y)) = [y] := by
  refine extR ltD (fun a => ltK_irr _) (fun _ _ _ => ltK_trans) _ _ (List.Pairwise.filter _ (rise_net l)) (by simp) fun z => ?_
  rw [List.mem_filter, isD_iff, List.mem_singleton, mem_net]
  have h1 := (mem_net l y).1 hy
  constructor
  · rintro ⟨⟨h2, h3⟩, h4⟩
    rw [h4, ← h1.1] at h2
    obtain ⟨z1, z2, z3⟩ := z
    obtain ⟨y1, y2, y3⟩ := y
    unfold keyD at h4
    simp only [Prod.mk.injEq] at h2 h4 ⊢
    exact ⟨h4.1, h4.2, h2⟩
  · rintro rfl; exact ⟨h1, rfl⟩
/-- What is netted adds up to what it was. -/
theorem gross_net (l : List Dn) (k : Dk) : grossV (netF l) k = grossV l k := by
  by_cases hc : grossV l k = 0
  · rw [hc]
    refine gross_out fun d hd he => ?_
    have := (mem_net l d).1 hd
    rw [he, hc] at this
    exact this.2 this.1
  · have hm : (k.1, k.2, grossV l k) ∈ netF l := (mem_net l _).2 ⟨rfl, hc⟩
    have := net_one l _ hm
    unfold grossV
    rw [show isD k = isD (keyD (k.1, k.2, grossV l k)) from rfl, this]
    show grossV l k + 0 = _
    rw [Int.add_zero]; rfl
theorem net_money {l : List Dn} (h : netE l = 0) : (netF l).all okD = true := List.all_eq_true.2 fun d hd => by
  have := (mem_net l d).1 hd
  unfold okD
  rw [this.1]; exact (netE_ok.1 h).2 _
theorem net_again {l : List Dn} (h : netE l = 0) : netE (netF l) = 0 ∧ netF (netF l) = netF l :=
  ⟨netE_ok.2 ⟨net_money h, fun k => by rw [gross_net]; exact (netE_ok.1 h).2 k⟩, net_ext fun k => gross_net l k⟩
theorem all_rev (l : List Dn) : l.reverse.all okD = l.all okD := List.all_reverse
theorem netE_ext {l m : List Dn} (h : l.all okD = m.all okD) (hg : ∀ k, grossV l k = grossV m k) : netE l = netE m := by
  by_cases hl : l.all okD = true
  · have hm : m.all okD = true := by rw [← h]; exact hl
    by_cases h1 : netE l = 0
    · rw [h1]; exact (netE_ok.2 ⟨hm, fun k => by rw [← hg]; exact (netE_ok.1 h1).2 k⟩).symm
    · have h2 : netE m ≠ 0 := fun h2 => h1 (netE_ok.2 ⟨hl, fun k => by rw [hg]; exact (netE_ok.1 h2).2 k⟩)
      unfold netE at h1 h2 ⊢
      rw [if_pos hl] at h1 ⊢
      rw [if_pos hm] at h2 ⊢
      split at h1
      · exact absurd rfl h1
      · split at h2
        · exact absurd rfl h2
        · next a b => rw [if_neg a, if_neg b]
  · unfold netE
    rw [if_neg hl, if_neg (by rw [← h]; exact hl)]
theorem net_rev (l : List Dn) : netE l.reverse = netE l ∧ netL l.reverse = netL l := by
  have h1 := netE_ext (all_rev l) (gross_rev l)
  refine ⟨h1, ?_⟩
  unfold netL
  rw [h1, net_ext (gross_rev l)]
theorem net_parts {l a b : List Dn} (hl : l = a ++ b) (h : netE l = 0) (ha : netE a = 0) (hb : netE b = 0) : netE (netF a ++ netF b) = 0 ∧ netF (netF a ++ netF b) = netF l := by
  subst hl
  have hg : ∀ k, grossV (netF a ++ netF b) k = grossV (a ++ b) k := fun k => by rw [gross_app, gross_app, gross_net, gross_net]
  refine ⟨netE_ok.2 ⟨?_, fun k => by rw [hg]; exact (netE_ok.1 h).2 k⟩, net_ext hg⟩
  rw [List.all_append, net_money ha, net_money hb]; rfl
def turnD (d : Dn) : Dn := (d.1, d.2.1, -d.2.2)
theorem gross_turn (l : List Dn) (k : Dk) : grossV (l.map turnD) k = -grossV l k := by
  induction l with
  | nil => rfl
  | cons d l ih =>
    rw [List.map_cons, gross_cons, gross_cons, ih]
    show (if isD k d then -d.2.2 else 0) + _ = _
    split <;> omega
theorem net_zero {l : List Dn} (h : netE l = 0) : netE (l ++ (l.map turnD).reverse) = 0 ∧ netF (l ++ (l.map turnD).reverse) = [] := by
  have hg : ∀ k, grossV (l ++ (l.map turnD).reverse) k = 0 := fun k => by rw [gross_app, gross_rev, gross_turn]; omega
  refine ⟨netE_ok.2 ⟨?_, fun k => by rw [hg]; decide⟩, ?_⟩
  · rw [List.all_append, all_rev, (netE_ok.1 h).1, Bool.true_and, List.all_eq_true]
    intro d hd
    obtain ⟨x, hx, rfl⟩ := List.mem_map.1 hd
    have := List.all_eq_true.1 (netE_ok.1 h).1 x hx
    unfold okD at this ⊢
    rw [isMoney_iff] at this ⊢
    show -4611686018427387904 ≤ -x.2.2 ∧ -x.2.2 ≤ 4611686018427387904
    omega
  · rw [List.eq_nil_iff_forall_not_mem]
    intro y hy
    have := (mem_net _ y).1 hy
    rw [hg] at this
    exact this.2 this.1
/-- A currency's sum. -/
def curD (l : List Dn) (c : Int) : Int := ((l.filter fun d => decide (d.2.1 = c)).map (·.2.2)).sum
theorem curD_cons (d : Dn) (l : List Dn) (c : Int) : curD (d :: l) c = (if d.2.1 = c then d.2.2 else 0) + curD l c := by
  unfold curD; rw [List.filter_cons]
  by_cases h : d.2.1 = c
  · rw [if_pos (by simpa using h), if_pos h, List.map_cons, List.sum_cons]
  · rw [if_neg (by simpa using h), if_neg h]; simp
theorem sum_keys (ks : List Dk) (hn : ks.Pairwise ltK) (c : Int) (k : Dk) (v : Int) : ((ks.filter fun x => decide (x.2 = c)).map fun x => if k = x then v else 0).sum = if k ∈ ks ∧ k.2 = c then v else 0 := by
  induction ks with
  | nil => simp
  | cons x ks ih =>
    have h0 := List.pairwise_cons.1 hn
    have h1 := ih h0.2
    rw [List.filter_cons]
    by_cases hk : k = x
    · subst hk
      have hni : k ∉ ks := fun h => ltK_irr _ (h0.1 k h)
      rw [if_neg (fun h => hni h.1)] at h1
      by_cases hc : k.2 = c
      · rw [if_pos (by simpa using hc), List.map_cons, List.sum_cons, h1, if_pos rfl, if_pos ⟨by simp, hc⟩]; omega
      · rw [if_neg (by simpa using hc), h1, if_neg (fun h => hc h.2)]
    · have hm : (k ∈ x :: ks ∧ k.2 = c) ↔ (k ∈ ks ∧ k.2 = c) := by simp [hk]
      by_cases hc : x.2 = c
      · rw [if_pos (by simpa using hc), List.map_cons, List.sum_cons, h1, if_neg hk]
        simp only [hm]; omega
      · rw [if_neg (by simpa using hc), h1]
        simp only [hm]
theorem sum_fn_add (ks : List Dk) (f g : Dk → Int) : (ks.map fun k => f k + g k).sum = (ks.map f).sum + (ks.map g).sum := by
  induction ks with
  | nil => rfl
  | cons x ks ih => simp only [List.map_cons, List.sum_cons]; rw [ih]; omega
theorem sum_fn_zero (ks : List Dk) : (ks.map fun _ => (0 : Int)).sum = 0 := by
  induction ks with
  | nil => rfl
  | cons x ks ih => rw [List.map_cons, List.sum_cons, ih]; rfl
theorem cur_keys (l : List Dn) (ks : List Dk) (hn : ks.Pairwise ltK) (hk : ∀ d ∈ l, keyD d ∈ ks) (c : Int) : curD l c = ((ks.filter fun x => decide (x.2 = c)).map (grossV l)).sum := by
  induction l with
  | nil => show (0 : Int) = _; rw [show grossV [] = fun _ => (0 : Int) from funext gross_nil, sum_fn_zero]
  | cons d l ih =>
    rw [curD_cons, ih fun e he => hk e (List.mem_cons_of_mem _ he)]
    have e : grossV (d :: l) = fun k => (if keyD d = k then d.2.2 else 0) + grossV l k := funext fun k => by
      rw [gross_cons]
      congr 1
      by_cases h : isD k d = true
      · rw [if_pos h, if_pos ((isD_iff k d).1 h)]
      · rw [if_neg h, if_neg fun h2 => h ((isD_iff k d).2 h2)]
    rw [e, sum_fn_add, sum_keys ks hn]
    congr 1
    by_cases h : d.2.1 = c
    · rw [if_pos h, if_pos ⟨hk d (by simp), h⟩]
    · rw [if_neg h, if_neg (fun h2 => h h2.2)]
theorem cur_net (l : List Dn) (c : Int) : curD (netF l) c = curD l c := by
  rw [cur_keys l (keysD l) (rise_keysD l) (fun d hd => (mem_keys l _).2 ⟨d, hd, rfl⟩) c, cur_keys (netF l) (keysD l) (rise_keysD l) (fun d hd => ?_) c]
  · rw [show grossV (netF l) = grossV l from funext (gross_net l)]
  · have := (mem_net l d).1 hd
    rw [mem_keys]
    by_cases hc : ∃ e ∈ l, keyD e = keyD d
    · exact hc
    · rw [gross_out fun e he h => hc ⟨e, he, h⟩] at this; exact absurd this.1 this.2
end Go.Proofs.Ytlmnbafklefmcaa.NumK
namespace Go.Proofs.Ytlmnbafklefmcaa.NumK
open Go.RowKit

/-- How many cells, and what they read as in a world; what is read stays where the world only grows. -/
structure Sp (α : Type) where
  size : Nat
  rd : World → List Value → α → Prop
  len : ∀ {w : World} {cs : List Value} {a : α}, rd w cs a → cs.length = size
  keep : ∀ {w w' : World} {cs : List Value} {a : α}, rd w cs a → Grew w w' → rd w' cs a

def spInt (k : IntKind) : Sp Int := ⟨1, fun _ cs n => cs = [.int k n] ∧ (Lit.int k n).wf = true, fun h => by rw [h.1]; rfl, fun h _ => h⟩
def spBool : Sp Bool := ⟨1, fun _ cs b => cs = [.bool b], fun h => by rw [h]; rfl, fun h _ => h⟩
def spStr : Sp ByteArray := ⟨1, fun _ cs s => cs = [.string s] ∧ s.size ≤ maxLen, fun h => by rw [h.1]; rfl, fun h _ => h⟩
def spPair {α β : Type} (A : Sp α) (B : Sp β) : Sp (α × β) :=
  ⟨A.size + B.size, fun w cs p => ∃ c1 c2, cs = c1 ++ c2 ∧ A.rd w c1 p.1 ∧ B.rd w c2 p.2,
    fun ⟨_, _, e, h1, h2⟩ => by rw [e, List.length_append, A.len h1, B.len h2],
    fun ⟨c1, c2, e, h1, h2⟩ g => ⟨c1, c2, e, A.keep h1 g, B.keep h2 g⟩⟩

theorem addr_add (b o k : Nat) : (⟨b, o, none⟩ : Addr).add k = ⟨b, o + k, none⟩ := by unfold Addr.add; split <;> simp_all

/-- A slice's elements, wherever they lie. -/
def Row {α : Type} (A : Sp α) (w : World) (ad : Option Addr) (n : Nat) (l : List α) : Prop :=
  l.length = n ∧ (0 < n → ∃ b o, ad = some ⟨b, o, none⟩ ∧ b < w.heap.size ∧ ∀ j (h : j < l.length), ∃ cs, A.rd w cs l[j] ∧ ∀ i, i < A.size → w.cell? ⟨b, o + j * A.size + i, none⟩ = cs[i]?)
theorem Row.keep {α : Type} {A : Sp α} {w w' : World} {ad : Option Addr} {n : Nat} {l : List α} (h : Row A w ad n l) (g : Grew w w') : Row A w' ad n l :=
  ⟨h.1, fun hn => by
    obtain ⟨b, o, e, hb, hc⟩ := h.2 hn
    refine ⟨b, o, e, Nat.lt_of_lt_of_le hb g.size, fun j hj => ?_⟩
    obtain ⟨cs, h1, h2⟩ := hc j hj
    exact ⟨cs, A.keep h1 g, fun i hi => (grew_cell g (p := ⟨b, o + j * A.size + i, none⟩) hb).trans (h2 i hi)⟩⟩
theorem Row.nil {α : Type} (A : Sp α) (w : World) (ad : Option Addr) : Row A w ad 0 [] := ⟨rfl, fun h => absurd h (by omega)⟩
theorem Row.take {α : Type} {A : Sp α} {w : World} {ad : Option Addr} {n k : Nat} {l : List α} (h : Row A w ad n l) (hk : k ≤ n) : Row A w ad k (l.take k) := by
  refine ⟨by have := h.1; simp; omega, fun hp => ?_⟩
  obtain ⟨b, o, e, hb, hc⟩ := h.2 (by omega)
  refine ⟨b, o, e, hb, fun j hj => ?_⟩
  obtain ⟨cs, h1, h2⟩ := hc j (by rw [List.length_take] at hj; omega)
  exact ⟨cs, by rw [List.getElem_take]; exact h1, h2⟩
theorem Row.drop {α : Type} {A : Sp α} {w : World} {ad : Addr} {n k : Nat} {l : List α} (h : Row A w (some ad) n l) (hk : k ≤ n) : Row A w (some (ad.add (k * A.size))) (n - k) (l.drop k) := by
  refine ⟨by have := h.1; simp; omega, fun hp => ?_⟩
  obtain ⟨b, o, e, hb, hc⟩ := h.2 (by omega)
  cases e
  refine ⟨b, o + k * A.size, by rw [addr_add], hb, fun j hj => ?_⟩
  obtain ⟨cs, h1, h2⟩ := hc (k + j) (by rw [List.length_drop] at hj; omega)
  refine ⟨cs, by rw [List.getElem_drop]; exact h1, fun i hi => ?_⟩
  rw [← h2 i hi, Nat.add_mul, Nat.add_assoc o]

def spSlice {α : Type} (A : Sp α) : Sp (List α) :=
  ⟨1, fun w cs l => ∃ ad n c, cs = [.slice ad n c] ∧ Row A w ad n l ∧ (ad = none → c = 0) ∧ n ≤ c ∧ c ≤ maxLen, fun ⟨_, _, _, e, _⟩ => by rw [e]; rfl,
    fun ⟨ad, n, c, e, h, r⟩ g => ⟨ad, n, c, e, h.keep g, r⟩⟩
def spArr {α : Type} (n : Nat) (A : Sp α) : Sp (List α) :=
  ⟨n * A.size, fun w cs l => l.length = n ∧ cs.length = n * A.size ∧ ∀ j (h : j < l.length), A.rd w ((cs.drop (j * A.size)).take A.size) l[j], fun h => h.2.1,
    fun h g => ⟨h.1, h.2.1, fun j hj => A.keep (h.2.2 j hj) g⟩⟩
/-- The same cells, read through a function. -/
def spMap {α β : Type} (f : α → β) (A : Sp α) : Sp β :=
  ⟨A.size, fun w cs b => ∃ a, A.rd w cs a ∧ f a = b, fun ⟨_, h, _⟩ => A.len h, fun ⟨a, h, e⟩ g => ⟨a, A.keep h g, e⟩⟩

/-- What came in at type t reads as A says. -/
def Opens (P : Program) (t : TypeId) {α : Type} (A : Sp α) : Prop :=
  P.cellsOf t = A.size ∧ ∀ {H : Type} (enc : TypeId × Value → H) (w : World) (held : Bool) (fuel : Nat) (cs : List Value) (x : DataW H × List MemPlace), DataW.trod enc P w 0 (fun _ => true) held fuel t cs = some x → ∃ a, A.rd w cs a

theorem opens_int {P : Program} {t : TypeId} {k : IntKind} (ht : P.underlying t = some (.int k)) (hc : P.cellsOf t = 1) : Opens P t (spInt k) :=
  ⟨hc, fun _ _ _ _ _ _ h => by obtain ⟨n, e, _, w⟩ := DataW.trod_int ht h; exact ⟨n, e, w⟩⟩
theorem opens_slice {P : Program} {t e : TypeId} {α : Type} [Inhabited α] {A : Sp α} (ht : P.underlying t = some (.slice e)) (hc : P.cellsOf t = 1) (he : Opens P e A) (hz : A.size ≠ 0) : Opens P t (spSlice A) := by
  refine ⟨hc, fun enc w held fuel cs x h => ?_⟩
  rcases Go.Deep.open_slice ht h with ⟨rfl, _⟩ | ⟨a, len, cap, m, n, D, Pl, rfl, _, hl, hm, hmm, _, hx⟩
  · exact ⟨[], none, 0, 0, rfl, Row.nil A w none, fun _ => rfl, Nat.le_refl _, by unfold maxLen; omega⟩
  · simp only [if_true] at hmm
    subst hmm
    have each : ∀ i, i < m → ∃ y, ∃ cs, A.rd w cs y ∧ ∀ k, k < A.size → w.cell? ((a.add (i * A.size)).add k) = cs[k]? := by
      intro i hi
      obtain ⟨cs', h1, h2⟩ := hx i hi
      rw [he.1] at h1
      obtain ⟨_, hlen, hcell⟩ := World.cells?_some h1
      obtain ⟨y, hy⟩ := he.2 enc w held n cs' _ h2
      exact ⟨y, cs', hy, hcell⟩
    obtain ⟨f, hf⟩ := Go.Deep.choose_lt each
    refine ⟨(List.range len).map f, some a, len, m, rfl, ⟨by simp, fun h0 => ?_⟩, fun h => by (cases h), hl, hm⟩
    obtain ⟨b, o, spot⟩ := a
    obtain ⟨cs0, h1, h2⟩ := hf 0 (by omega)
    have h3 := h2 0 (by omega)
    have hl0 := A.len h1
    have h4 : w.cell? ⟨b, o, spot⟩ = some cs0[0] := by
      rw [List.getElem?_eq_getElem (by omega)] at h3
      simpa [Addr.add] using h3
    have hspot : spot = none := by simpa using World.cell?_spot h4
    subst hspot
    refine ⟨b, o, rfl, by simpa using World.block_lt_of_cell? w _ h4, fun j hj => ?_⟩
    obtain ⟨cs', g1, g2⟩ := hf j (by simp at hj; omega)
    refine ⟨cs', by simpa using g1, fun i hi => ?_⟩
    rw [← g2 i hi, addr_add, addr_add]

/-- A struct's fields, in their order, from a cell on. -/
inductive Fs (P : Program) : List Field → Nat → {α : Type} → Sp α → Prop
  | last {α : Type} {A : Sp α} (f : Field) (off : Nat) (ho : f.offset = off) (h : Opens P f.type A) : Fs P [f] off A
  | cons {α β : Type} {A : Sp α} {B : Sp β} (f : Field) (fs : List Field) (off : Nat) (ho : f.offset = off) (h : Opens P f.type A) (r : Fs P fs (off + A.size) B) : Fs P (f :: fs) off (spPair A B)

theorem Fs.rd {P : Program} {H : Type} {enc : TypeId × Value → H} {w : World} {held : Bool} {n : Nat} {cs : List Value} {fs : List Field} {off : Nat} {α : Type} {A : Sp α} (h : Fs P fs off A)
    (hx : ∀ f ∈ fs, ∃ y, DataW.trod enc P w 0 (fun _ => true) held n f.type ((cs.drop f.offset).take (P.cellsOf f.type)) = some y) : ∃ a, A.rd w ((cs.drop off).take A.size) a := by
  induction h with
  | last f off ho h =>
    obtain ⟨y, hy⟩ := hx f (by simp)
    rw [ho, h.1] at hy
    exact h.2 enc w held n _ y hy
  | @cons α β A B f fs off ho h r ih =>
    obtain ⟨y, hy⟩ := hx f (by simp)
    rw [ho, h.1] at hy
    obtain ⟨a, ha⟩ := h.2 enc w held n _ y hy
    obtain ⟨b, hb⟩ := ih fun g hg => hx g (by simp [hg])
    refine ⟨(a, b), _, _, ?_, ha, hb⟩
    show (cs.drop off).take (A.size + B.size) = _
    rw [List.take_add, List.drop_drop]

theorem opens_struct {P : Program} {t : TypeId} {fs : Array Field} {α : Type} {A : Sp α} (ht : P.underlying t = some (.struct fs)) (hc : P.cellsOf t = A.size) (h : Fs P fs.toList 0 A) : Opens P t A := by
  refine ⟨hc, fun enc w held fuel cs x hx => ?_⟩
  obtain ⟨xs, n, _, _, hl, hlen, hf⟩ := DataW.trod_struct ht hx
  obtain ⟨a, ha⟩ := Fs.rd (enc := enc) (w := w) (held := held) (n := n) (cs := cs) h (fun f hfm => by
    obtain ⟨i, hi, rfl⟩ := List.getElem_of_mem hfm
    have e := hf i fs.toList[i] (by simp)
    rw [e, List.getElem?_eq_getElem (by simp at hi; omega)]
    exact ⟨_, rfl⟩)
  rw [List.drop_zero, List.take_of_length_le (by omega)] at ha
  exact ⟨a, ha⟩

/-- An argument's own value, opened. -/
theorem opens_arg {P : Program} {t : TypeId} {α : Type} {A : Sp α} (h : Opens P t A) {H : Type} {enc : TypeId × Value → H} {w : World} {held : Bool} {v : Value} {d : DataW H} {p : List MemPlace}
    (hd : DataW.Trod enc P w 0 (fun _ => true) held t v d p) : ∃ a, A.rd w v.cells.toList a := by
  obtain ⟨fuel, hf⟩ := hd
  exact h.2 enc w held fuel _ _ hf

theorem arg_slice {P : Program} {t e : TypeId} {α : Type} {A : Sp α} (ht : P.underlying t = some (.slice e)) (h : Opens P t (spSlice A)) {H : Type} {enc : TypeId × Value → H} {w : World} {held : Bool} {v : Value} {d : DataW H} {p : List MemPlace} {r : Reach} {b0 : Nat}
    (hv : Value.okWide P w r b0 t v) (hd : DataW.Trod enc P w 0 (fun _ => true) held t v d p) : ∃ ad n c l, v = .slice ad n c ∧ Row A w ad n l ∧ (ad = none → c = 0) ∧ n ≤ c ∧ c ≤ 9223372036854775807 := by
  obtain ⟨ad, n, c, rfl⟩ := Go.WideShapes.okWide_slice ht hv
  obtain ⟨l, ad', n', c', e, hr, h0, h1, h2⟩ := opens_arg h hd
  simp [Value.cells] at e
  obtain ⟨rfl, rfl, rfl⟩ := e
  exact ⟨ad, n, c, l, rfl, hr, h0, h1, by unfold maxLen at h2; omega⟩
end Go.Proofs.Ytlmnbafklefmcaa.NumK
namespace Go.Proofs.Ytlmnbafklefmcaa.NumK
open Go.RowKit

/-- How an element lies in cells. -/
structure En (α : Type) where
  size : Nat
  cs : α → List Value
  len : ∀ a, (cs a).length = size
  one : ∀ a, ∀ v ∈ cs a, v.oneCell' = true
  pos : 0 < size

def En.sp {α : Type} (E : En α) : Sp α := ⟨E.size, fun _ cs a => cs = E.cs a, fun h => by rw [h]; exact E.len _, fun h _ => h⟩

/-- A row of them, wherever it lies. -/
def RowE {α : Type} (E : En α) (w : World) (A : Option Addr) (n : Nat) (l : List α) : Prop := Row E.sp w A n l

theorem Row.imp {α β : Type} {A : Sp α} {B : Sp β} (f : α → β) (hs : B.size = A.size) {w : World} (hf : ∀ cs a, A.rd w cs a → B.rd w cs (f a)) {ad : Option Addr} {n : Nat} {l : List α} (h : Row A w ad n l) : Row B w ad n (l.map f) := by
  refine ⟨by rw [List.length_map]; exact h.1, fun hn => ?_⟩
  obtain ⟨b, o, e, hb, hc⟩ := h.2 hn
  refine ⟨b, o, e, hb, fun j hj => ?_⟩
  obtain ⟨cs, h1, h2⟩ := hc j (by simpa using hj)
  exact ⟨cs, by rw [List.getElem_map]; exact hf _ _ h1, fun i hi => by rw [hs]; exact h2 i (by rw [← hs]; exact hi)⟩

theorem RowE.keep {α : Type} {E : En α} {w w' : World} {ad : Option Addr} {n : Nat} {l : List α} (h : RowE E w ad n l) (g : Grew w w') : RowE E w' ad n l := Row.keep h g
theorem RowE.nil {α : Type} (E : En α) (w : World) (ad : Option Addr) : RowE E w ad 0 [] := Row.nil _ w ad
theorem RowE.len {α : Type} {E : En α} {w : World} {ad : Option Addr} {n : Nat} {l : List α} (h : RowE E w ad n l) : l.length = n := h.1
theorem RowE.at {α : Type} {E : En α} {w : World} {ad : Option Addr} {n : Nat} {l : List α} (h : RowE E w ad n l) (hn : 0 < n) :
    ∃ b o, ad = some ⟨b, o, none⟩ ∧ b < w.heap.size ∧ ∀ j (hj : j < l.length), ∀ i, i < E.size → w.cell? ⟨b, o + j * E.size + i, none⟩ = (E.cs l[j])[i]? := by
  obtain ⟨b, o, e, hb, hc⟩ := h.2 hn
  refine ⟨b, o, e, hb, fun j hj i hi => ?_⟩
  obtain ⟨cs, h1, h2⟩ := hc j hj
  have h1 : cs = E.cs l[j] := h1
  subst h1
  exact h2 i hi
theorem RowE.take {α : Type} {E : En α} {w : World} {ad : Option Addr} {n k : Nat} {l : List α} (h : RowE E w ad n l) (hk : k ≤ n) : RowE E w ad k (l.take k) := Row.take h hk

/-- A block that the call has made, behind whatever only grows. -/
theorem own_cell {w w1 : World} {cs : Array Value} {t : TypeId} (h : Grew (w.alloc (.cells cs t)) w1) (i : Nat) : w1.cell? ⟨w.heap.size, i, none⟩ = cs[i]? :=
  (Below.cell h (p := ⟨w.heap.size, i, none⟩) (by simp)).trans (by rw [World.cell?_alloc_at _ _ _ _ (by simp)])
theorem own_back {w w1 : World} {cs : Array Value} {t : TypeId} (h : Grew (w.alloc (.cells cs t)) w1) : Grew w w1 := grew_trans (grew_alloc _ _ _) h

/-! ### what a call owns -/
def OwnE {α : Type} (E : En α) (w : World) (base : Nat) (t : TypeId) (v : Value) (l : List α) : Prop := w.ownsRow base t E.size v l.length (l.flatMap E.cs)

theorem En.flat_len {α : Type} (E : En α) (l : List α) : (l.flatMap E.cs).length = l.length * E.size := by
  induction l with
  | nil => simp
  | cons x l ih => rw [List.flatMap_cons, List.length_append, ih, E.len, List.length_cons, Nat.succ_mul, Nat.add_comm]
theorem En.flat_at {α : Type} (E : En α) (l : List α) (j : Nat) (h : j < l.length) (i : Nat) (hi : i < E.size) : (l.flatMap E.cs)[j * E.size + i]? = (E.cs l[j])[i]? := by
  induction l generalizing j with
  | nil => simp at h
  | cons x l ih =>
    rw [List.flatMap_cons]
    cases j with
    | zero =>
      rw [Nat.zero_mul, Nat.zero_add, List.getElem?_append_left (by rw [E.len]; exact hi)]; rfl
    | succ j =>
      rw [List.getElem?_append_right (by rw [E.len, Nat.succ_mul]; omega), E.len, show (j + 1) * E.size + i - E.size = j * E.size + i by rw [Nat.succ_mul]; omega, ih j (by simpa using h)]
      rfl

theorem OwnE.nil {α : Type} (E : En α) (w : World) (base : Nat) (t : TypeId) : OwnE E w base t (.slice none 0 0) [] := World.ownsRow_nil _ _ _ _
theorem OwnE.form {α : Type} {E : En α} {w : World} {base : Nat} {t : TypeId} {v : Value} {l : List α} (h : OwnE E w base t v l) :
    ∃ A c, v = .slice A l.length c ∧ RowE E w A l.length l ∧ (A = none → c = 0) ∧ l.length ≤ c ∧ c ≤ maxLen := by
  obtain ⟨_, h⟩ := h
  rcases h with ⟨rfl, h0⟩ | ⟨g, cap, cur, rfl, _, hh, hc, hm, _, ht⟩
  · obtain rfl := List.eq_nil_of_length_eq_zero h0
    exact ⟨none, 0, rfl, RowE.nil E w none, fun _ => rfl, Nat.le_refl _, by unfold maxLen; omega⟩
  · refine ⟨some ⟨g, 0, none⟩, cap, rfl, ⟨rfl, fun hn => ⟨g, 0, rfl, ?_, fun j hj => ⟨E.cs l[j], rfl, fun i hi => ?_⟩⟩⟩, (fun h => by cases h), hc, hm⟩
    · rcases Nat.lt_or_ge g w.heap.size with h1 | h1
      · exact h1
      · rw [Array.getElem?_eq_none h1] at hh; cases hh
    · have hi : i < E.size := hi
      have e1 := E.flat_at l j hj i hi
      have hlt : j * E.size + i < l.length * E.size := by
        have : (j + 1) * E.size ≤ l.length * E.size := Nat.mul_le_mul_right _ hj
        rw [Nat.succ_mul] at this; omega
      rw [← ht, List.getElem?_take, if_pos hlt, Array.getElem?_toList] at e1
      show w.cell? ⟨g, 0 + j * E.size + i, none⟩ = _
      rw [cell_of_row w g _ cur t (0, 0) hh, Nat.zero_add, e1]
theorem OwnE.keep {α : Type} {E : En α} {w w' : World} {base : Nat} {t : TypeId} {v : Value} {l : List α} (h : OwnE E w base t v l) (g : Grew w w') : OwnE E w' base t v l := by
  obtain ⟨hl, h⟩ := h
  refine ⟨hl, ?_⟩
  rcases h with h | ⟨b, cap, cur, hv, hb, hh, r⟩
  · exact Or.inl h
  · refine Or.inr ⟨b, cap, cur, hv, hb, ?_, r⟩
    rw [g.block b ?_]
    · exact hh
    · rcases Nat.lt_or_ge b w.heap.size with h1 | h1
      · exact h1
      · rw [Array.getElem?_eq_none h1] at hh; cases hh
theorem OwnE.mono {α : Type} {E : En α} {w : World} {base base2 : Nat} {t : TypeId} {v : Value} {l : List α} (h : OwnE E w base t v l) (hb : base2 ≤ base) : OwnE E w base2 t v l := by
  obtain ⟨hl, h⟩ := h
  refine ⟨hl, ?_⟩
  rcases h with h | ⟨b, cap, cur, hv, h1, hh, r⟩
  · exact Or.inl h
  · exact Or.inr ⟨b, cap, cur, hv, by omega, hh, r⟩

section
variable {w : World} {ops : Array Oper} {rest : List Oper} {o : Oper} {a : Act} {Q : Exit → Act → World → Prop}
theorem wpList_append_E {α : Type} {E : En α} (hgd : o.guard = none) (s x : Operand) (T t : TypeId) (z : Value) (by' : Nat)
    (ho : o.op = .call { callee := .builtin .append, args := #[s, x], argTypes := #[T, T] })
    (hT : Try.prog.underlying T = some (.slice t)) (hi : (Try.prog.info? t).map (fun i => (i.zero, i.size, i.bytes)) = some (some z, E.size, by')) (hz : z.cells.size = E.size)
    (base : Nat) (v : Value) (l : List α) (hs : a.eval s = v) (hown : OwnE E w base t v l)
    (A : Option Addr) (m c : Nat) (zs : List α) (hx : a.eval x = .slice A m c) (hA : A = none → c = 0) (hR : RowE E w A m zs)
    (hm : l.length + m ≤ maxLen) (hlim : (l.length + m) * by' ≤ 140737488355328) (hbase : base ≤ w.heap.size)
    (h : ∀ v' w', OwnE E w' base t v' (l ++ zs) → Below base w w' → wpList Try.prog ops Q rest (a.put o.dst v') w') : wpList Try.prog ops Q (o :: rest) a w := by
  obtain ⟨i, hi, hz0, hz1, hz2⟩ := info_parts hi
  have hl := hR.len
  cases A with
  | none =>
    have hc := hA rfl
    subst hc
    have hm0 : m = 0 := by
      rcases Nat.eq_zero_or_pos m with h0 | h0
      · exact h0
      · obtain ⟨b, o, he, _⟩ := hR.2 h0
        cases he
    subst hm0
    have hz : zs = [] := List.eq_nil_of_length_eq_zero hl
    subst hz
    exact wpList_append_own_none hgd s x T ho base t i E.size hT hi v l.length _ hs hown hx (h v w (by simpa using hown) (Below.refl _ _))
  | some ad =>
    refine wpList_append_own w hgd s x T ho base t i z E.size by' hT hi hz0 hz1 hz2 hz E.pos v l.length _ hs hown ad m c (zs.flatMap E.cs) hx (by rw [E.flat_len, hl]) (fun j u hu => ?_) (fun u hu => ?_) hm hlim hbase (fun v' w' ho' hg _ => ?_)
    · have hj : j < zs.length * E.size := by
        rw [← E.flat_len]
        rcases Nat.lt_or_ge j (zs.flatMap E.cs).length with h1 | h1
        · exact h1
        · rw [List.getElem?_eq_none h1] at hu; cases hu
      have hq : j / E.size < zs.length := Nat.div_lt_of_lt_mul (by rw [Nat.mul_comm]; exact hj)
      have hdm : j / E.size * E.size + j % E.size = j := by rw [Nat.mul_comm]; exact Nat.div_add_mod j E.size
      have hmod : j % E.size < E.size := Nat.mod_lt _ E.pos
      obtain ⟨b, o2, he, hb, hc⟩ := hR.at (by rw [← hl]; exact Nat.lt_of_le_of_lt (Nat.zero_le _) hq)
      cases he
      have e1 := hc (j / E.size) hq (j % E.size) hmod
      rw [← E.flat_at zs _ hq _ hmod, hdm, hu] at e1
      rw [addr_add, ← e1, Nat.add_assoc, hdm]
    · obtain ⟨y, _, hy⟩ := List.mem_flatMap.1 hu
      exact E.one y u hy
    · refine h v' w' ?_ ((Below.refl base w).grown hg hbase fun k hk => (hown.lt k hk).1)
      show w'.ownsRow base t E.size v' (l ++ zs).length ((l ++ zs).flatMap E.cs)
      rw [List.length_append, hl, List.flatMap_append]
      exact ho'
end
end Go.Proofs.Ytlmnbafklefmcaa.NumK
namespace Go.Proofs.Ytlmnbafklefmcaa.NumK
open Go.RowKit

/-- Kind, Who, Cur. -/
abbrev Ac := Int × Int × Int
def acV (k m c : Int) : Value := .agg #[.int .i64 k, .int .i64 m, .int .i64 c]
def enAc : En Ac := ⟨3, fun a => [.int .i64 a.1, .int .i64 a.2.1, .int .i64 a.2.2], fun _ => rfl, fun a v hv => by
  simp at hv; rcases hv with rfl | rfl | rfl <;> rfl, by decide⟩

def ownedK (k : Int) : Bool := decide (k = 2) || decide (k = 3)
def rightA (k m c : Int) : Bool := decide (1 ≤ k ∧ k ≤ 6) && decide (0 ≤ c ∧ c < 3) && (if ownedK k then decide (1 ≤ m ∧ m ≤ 16) else decide (m = 0))

def sameA (k m c k' m' c' : Int) : Bool := decide (k = k') && decide (m = m') && decide (c = c')

theorem owned_any (k : Int) (w : World) : Calls Try.prog 81 #[.int .i64 k] w fun e w' => e = .returned (.bool (ownedK k)) ∧ w = w' := by
  go_enter Try.func81, Try.ntmps81
  go_wp2
  all_goals go_ret
  all_goals exact ⟨ret_b (by rw [Bool.eq_iff_iff]; simp_all [ownedK]), rfl⟩

theorem whos_any (k : Int) (w : World) : Calls Try.prog 65 #[.int .i64 k] w fun e w' => e = .returned (.tuple #[.int .i64 (if ownedK k then 1 else 0), .int .i64 (if ownedK k then 16 else 0)]) ∧ w = w' := by
  have C := owned_any k
  generalize ownedK k = b at *
  go_enter Try.func65, Try.ntmps65
  go_wp2_with (go_at_call 81; ((with_reducible refine (C _).mono ?_); rintro e w' ⟨rfl, rfl⟩))
  all_goals go_ret2
  all_goals exact ⟨by simp_all, rfl⟩

theorem keepAcct_any (k m c k' m' c' : Int) (w : World) : Calls Try.prog 37 #[acV k m c, acV k' m' c'] w fun e w' => e = .returned (.bool (sameA k m c k' m' c')) ∧ Grew w w' := by
  unfold acV
  go_enter Try.func37, Try.ntmps37
  go_wp2
  all_goals go_ret
  all_goals exact ⟨ret_b (by rw [Bool.eq_iff_iff]; simp_all [sameA]), grew_trans (grew_alloc _ _ _) (grew_alloc _ _ _)⟩

theorem aright_any (k m c : Int) (w : World) : Calls Try.prog 52 #[acV k m c] w fun e w' => e = .returned (.bool (rightA k m c)) ∧ Grew w w' := by
  have C := whos_any k
  unfold acV
  go_enter Try.func52, Try.ntmps52
  go_wp2_with (go_at_call 65; ((with_reducible refine (C _).mono ?_); rintro e w' ⟨rfl, rfl⟩))
  all_goals go_ret
  all_goals exact ⟨ret_b (by clear C; rw [Bool.eq_iff_iff]; simp_all [rightA] <;> omega), grew_alloc _ _ _⟩

theorem right_in {k m c : Int} (hr : rightA k m c = true) : (1 ≤ k ∧ k ≤ 6) ∧ (0 ≤ m ∧ m < 100) ∧ (0 ≤ c ∧ c < 100) := by
  simp only [rightA, Bool.and_eq_true, decide_eq_true_eq] at hr
  obtain ⟨⟨h1, h2⟩, h3⟩ := hr
  split at h3 <;> simp at h3 <;> omega

theorem r8right_any (k m c : Int) (w : World) : Calls Try.prog 35 #[acV k m c] w fun e w' => e = .returned (.bool (rightA k m c)) ∧ Grew w w' := by
  unfold acV
  go_enter Try.func35, Try.ntmps35
  go_wp2
  all_goals go_ret
  all_goals exact ⟨ret_b (by rw [Bool.eq_iff_iff]; simp_all [rightA, ownedK] <;> omega), grew_alloc _ _ _⟩
end Go.Proofs.Ytlmnbafklefmcaa.NumK
namespace Go.Proofs.Ytlmnbafklefmcaa.NumK
open Go.RowKit

def whoAcs (k m : Int) : List Ac := [(k, m, 0), (k, m, 1), (k, m, 2)]
/-- n members' accounts from the first on. -/
def whosAcs (k f : Int) (n : Nat) : List Ac := (List.range n).flatMap fun i : Nat => whoAcs k (f + i)
def kindL (k : Int) : List Ac := if ownedK k then whosAcs k 1 16 else whosAcs k 0 1
def allTo (kinds : List Int) (n : Nat) : List Ac := (List.range n).flatMap fun i : Nat => if kinds.contains ((i : Int) + 1) then kindL ((i : Int) + 1) else []
def allL (kinds : List Int) : List Ac := allTo kinds 6

theorem whosAcs_succ (k f : Int) (n : Nat) : whosAcs k f (n + 1) = whosAcs k f n ++ whoAcs k (f + n) := by
  unfold whosAcs
  rw [List.range_succ, List.flatMap_append]; simp
theorem allTo_succ (kinds : List Int) (n : Nat) : allTo kinds (n + 1) = allTo kinds n ++ (if kinds.contains ((n : Int) + 1) then kindL ((n : Int) + 1) else []) := by
  unfold allTo
  rw [List.range_succ, List.flatMap_append]; simp
theorem whosAcs_len (k f : Int) (n : Nat) : (whosAcs k f n).length = n * 3 := by
  induction n with
  | zero => rfl
  | succ n ih => rw [whosAcs_succ, List.length_append, ih]; simp [whoAcs]; omega
theorem kindL_len (k : Int) : (kindL k).length ≤ 48 := by
  unfold kindL; split <;> rw [whosAcs_len] <;> omega
theorem allTo_len (kinds : List Int) (n : Nat) : (allTo kinds n).length ≤ n * 48 := by
  induction n with
  | zero => simp [allTo]
  | succ n ih =>
    rw [allTo_succ, List.length_append]
    have := kindL_len ((n : Int) + 1)
    split
    · omega
    · simp only [List.length_nil]; omega

theorem info_ac : (Try.prog.info? 48).map (fun i => (i.zero, i.size, i.bytes)) = some (some (acV 0 0 0), 3, 24) := by kernel_rfl
theorem rowE_one (w : World) (k m c : Int) (t : TypeId) (N : Nat) (hN : w.heap.size = N) : RowE enAc (w.alloc (.cells #[.int .i64 k, .int .i64 m, .int .i64 c] t)) (some ⟨N, 0, none⟩) 1 [(k, m, c)] := by
  subst hN
  refine ⟨rfl, fun _ => ⟨_, _, rfl, by simp, fun j hj => ?_⟩⟩
  have : j = 0 := by simpa using hj
  subst this
  refine ⟨_, rfl, fun i hi => ?_⟩
  have hi : i < 3 := hi
  match i, hi with
  | 0, _ => simp [enAc]
  | 1, _ => simp [enAc]
  | 2, _ => simp [enAc]

/-- An account of a row, cell by cell. -/
theorem RowE.ac {w : World} {n : Nat} {l : List Ac} {A : Option Addr} (h : RowE enAc w A n l) {j : Nat} (hj : j < n) :
    ∃ b o, A = some ⟨b, o, none⟩ ∧ b < w.heap.size ∧ w.cell? ⟨b, o + j * 3, none⟩ = some (.int .i64 (l.getD j (0, 0, 0)).1) ∧ w.cell? ⟨b, o + j * 3 + 1, none⟩ = some (.int .i64 (l.getD j (0, 0, 0)).2.1) ∧ w.cell? ⟨b, o + j * 3 + 2, none⟩ = some (.int .i64 (l.getD j (0, 0, 0)).2.2) := by
  have hl := h.len
  obtain ⟨b, o, e, hb, hc⟩ := h.at (by omega)
  have hj' : j < l.length := by omega
  have e1 : l.getD j (0, 0, 0) = l[j] := by simp [List.getD, hj']
  rw [e1]
  exact ⟨b, o, e, hb, hc j hj' 0 (by decide), hc j hj' 1 (by decide), hc j hj' 2 (by decide)⟩

theorem sameA_iff (a b : Ac) : sameA a.1 a.2.1 a.2.2 b.1 b.2.1 b.2.2 = decide (a = b) := by
  rw [Bool.eq_iff_iff]
  simp [sameA, Prod.ext_iff, and_assoc]

theorem take_snoc {α : Type} (l : List α) (k : Nat) (d : α) (h : k < l.length) : l.take (k + 1) = l.take k ++ [l.getD k d] := by
  rw [List.take_succ_eq_append_getElem h]; simp [List.getD, h]

def allK : List Ac := allL [1, 2, 3, 4, 5, 6]

theorem allK_right : ∀ a ∈ allK, rightA a.1 a.2.1 a.2.2 = true := by decide +kernel

theorem mem_fin : ∀ k : Fin 7, ∀ m : Fin 17, ∀ c : Fin 3, rightA (k.val : Int) (m.val : Int) (c.val : Int) = true → ((k.val : Int), (m.val : Int), (c.val : Int)) ∈ allK := by decide +kernel
theorem mem_allK (a : Ac) (h : rightA a.1 a.2.1 a.2.2 = true) : a ∈ allK := by
  obtain ⟨k, m, c⟩ := a
  have hb : (0 ≤ k ∧ k < 7) ∧ (0 ≤ m ∧ m < 17) ∧ (0 ≤ c ∧ c < 3) := by
    simp only [rightA, Bool.and_eq_true, decide_eq_true_eq] at h
    obtain ⟨⟨h1, h2⟩, h3⟩ := h
    split at h3 <;> simp at h3 <;> omega
  obtain ⟨⟨k0, k1⟩, ⟨m0, m1⟩, c0, c1⟩ := hb
  obtain ⟨k, rfl⟩ := Int.eq_ofNat_of_zero_le k0
  obtain ⟨m, rfl⟩ := Int.eq_ofNat_of_zero_le m0
  obtain ⟨c, rfl⟩ := Int.eq_ofNat_of_zero_le c0
  exact mem_fin ⟨k, by omega⟩ ⟨m, by omega⟩ ⟨c, by omega⟩ h

theorem ints6' (w : World) (a b c d e f : Int) (t : TypeId) (N : Nat) (hN : w.heap.size = N) : Ints (w.alloc (.cells #[.int .i64 a, .int .i64 b, .int .i64 c, .int .i64 d, .int .i64 e, .int .i64 f] t)) (some ⟨N, 0, none⟩) 6 [a, b, c, d, e, f] := by
  subst hN
  exact ⟨rfl, fun _ => ⟨_, _, rfl, by simp, fun j hj => by
    match j, hj with
    | 0, _ => simp
    | 1, _ => simp
    | 2, _ => simp
    | 3, _ => simp
    | 4, _ => simp
    | 5, _ => simp⟩⟩

theorem allK_len : allK.length = 108 := by decide +kernel
end Go.Proofs.Ytlmnbafklefmcaa.NumK
namespace Go.Proofs.Ytlmnbafklefmcaa.NumK
open Go.RowKit

set_option maxHeartbeats 400000 in
theorem right_any (A : Option Addr) (n c : Nat) (zs : List Int) (w : World) (hz : Ints w A n zs) (hn : n ≤ 9223372036854775807) :
    Calls Try.prog 40 #[.slice A n c] w fun e w' => e = .returned (.bool (zs.all isMoney)) ∧ w = w' := by
  have HZ : Hid (Ints w A n zs) := hz
  clear hz
  go_enter Try.func40, Try.ntmps40
  go_wp2
  go_loop [7] (fun i => ∃ k : Nat, k ≤ n ∧ i = .int .i64 k ∧ Hid ((zs.take k).all isMoney = true)) (fun i => n - (intOf i).toNat)
  case atStart => exact ⟨0, Nat.zero_le _, rfl, by simp [Hid]⟩
  case round =>
    obtain ⟨k, hk, rfl, HK⟩ := hrel
    by_cases hlt : k < n
    · obtain ⟨b, o, rfl, _, hc⟩ := HZ.out.2 (by omega)
      have hcell := hc k hlt
      have hl := HZ.out.1
      have hs := all_take_succ zs k (by omega)
      have HS : Hid ((zs.take (k + 1)).all isMoney = isMoney (zs.getD k 0)) := by rw [hs, HK.out]; simp [Hid]
      clear hs hc hl
      generalize hy : zs.getD k 0 = y at *
      have HY : Hid (zs.getD k 0 = y) := hy
      clear hy
      by_cases h1 : y < -4611686018427387904
      · go_wp2
        go_ret
        exact ⟨ret_b (all_false zs k (by have := HZ.out.1; omega) y HY.out (by omega)), rfl⟩
      · by_cases h2 : 4611686018427387904 < y
        · go_wp2
          go_ret
          exact ⟨ret_b (all_false zs k (by have := HZ.out.1; omega) y HY.out (by omega)), rfl⟩
        · go_wp2
          go_round
          case rel => exact ⟨k + 1, by omega, by go_num, HS.out.trans ((isMoney_iff y).2 ⟨by omega, by omega⟩)⟩
          case measure => simp [intOf]; omega
    · have : k = n := by omega
      subst this
      go_wp2
      go_ret
      have h1 := HK.out
      rw [List.take_of_length_le (by have := HZ.out.1; omega)] at h1
      exact ⟨ret_b h1.symm, rfl⟩

end Go.Proofs.Ytlmnbafklefmcaa.NumK
namespace Go.Proofs.Ytlmnbafklefmcaa.NumK
open Go.RowKit

/-! ### numbers of 128 bits, by their halves -/
def hi64 (x : Int) : Int := x / 18446744073709551616
def lo64 (x : Int) : Int := x % 18446744073709551616
theorem w_eq (x : Int) : hi64 x * 18446744073709551616 + lo64 x = x := by unfold hi64 lo64; omega
theorem lo_bounds (x : Int) : 0 ≤ lo64 x ∧ lo64 x < 18446744073709551616 := by unfold lo64; omega
theorem w_unique (x h l : Int) (e : h * 18446744073709551616 + l = x) (h0 : 0 ≤ l) (h1 : l < 18446744073709551616) : hi64 x = h ∧ lo64 x = l := by unfold hi64 lo64; omega
def isWide (x : Int) : Bool := decide (-170141183460469231731687303715884105728 ≤ x) && decide (x < 170141183460469231731687303715884105728)
theorem isWide_iff (x : Int) : isWide x = true ↔ -170141183460469231731687303715884105728 ≤ x ∧ x < 170141183460469231731687303715884105728 := by simp [isWide]
theorem hi_bounds (x : Int) (h : isWide x = true) : -9223372036854775808 ≤ hi64 x ∧ hi64 x ≤ 9223372036854775807 := by
  rw [isWide_iff] at h; unfold hi64; omega

theorem ret_wv {x a b : Int} (h1 : a = hi64 x) (h2 : b = lo64 x) : Ending.returned (.agg #[.int .i64 a, .int .u64 b]) = .returned (.agg #[.int .i64 (hi64 (x)), .int .u64 (lo64 (x))]) := by rw [h1, h2]
def intV (x : Int) : Int := if isMoney x then x else 0
theorem intV_in {x : Int} (h : isMoney x = true) : intV x = x := by simp [intV, h]
theorem intV_out {x : Int} (h : isMoney x = false) : intV x = 0 := by simp [intV, h]
theorem ret_vb {a a' : Int} {b b' : Bool} (h1 : a = a') (h2 : b = b') : Ending.returned (.tuple #[.int .i64 a, .bool b]) = .returned (.tuple #[.int .i64 a', .bool b']) := by rw [h1, h2]
theorem keep2 {w w1 w2 : World} {v0 v1 : Value} (g : Grew w1 w2) (h1 : w1.cell? ⟨w.heap.size, 0, none⟩ = some v0) (h2 : w1.cell? ⟨w.heap.size, 1, none⟩ = some v1) (h3 : w.heap.size < w1.heap.size) (h4 : Grew w w1) :
    w2.cell? ⟨w.heap.size, 0, none⟩ = some v0 ∧ w2.cell? ⟨w.heap.size, 1, none⟩ = some v1 ∧ w.heap.size < w2.heap.size ∧ Grew w w2 :=
  ⟨(grew_cell g (p := ⟨w.heap.size, 0, none⟩) h3).trans h1, (grew_cell g (p := ⟨w.heap.size, 1, none⟩) h3).trans h2, Nat.lt_of_lt_of_le h3 g.size, grew_trans h4 g⟩
theorem ret_wb {x a b : Int} {p q : Bool} (h1 : a = hi64 x) (h2 : b = lo64 x) (h3 : p = q) : Ending.returned (.tuple #[.agg #[.int .i64 a, .int .u64 b], .bool p]) = .returned (.tuple #[(.agg #[.int .i64 (hi64 (x)), .int .u64 (lo64 (x))]), .bool q]) := by rw [h1, h2, h3]
def wsV (x : Int) : Int := if isWide x then x else 0
end Go.Proofs.Ytlmnbafklefmcaa.NumK
namespace Go.Proofs.Ytlmnbafklefmcaa.NumK
open Go.RowKit

theorem refRight_any (n : Int) (w : World) :
    Calls Try.prog 47 #[.int .i64 n] w fun e w' => e = .returned (.bool (isMoney n)) ∧ w = w' := by
  by_cases h1 : -4611686018427387904 ≤ n
  · by_cases h2 : n ≤ 4611686018427387904
    · have H := Lib.hid ((isMoney_iff n).2 ⟨h1, h2⟩)
      go_enter Try.func47, Try.ntmps47
      go_wp2
      go_ret
      exact ⟨ret_b H.out.symm, rfl⟩
    · have hf : isMoney n = false := by rw [← Bool.not_eq_true, isMoney_iff]; omega
      have H := Lib.hid hf
      clear hf
      go_enter Try.func47, Try.ntmps47
      go_wp2
      go_ret
      exact ⟨ret_b H.out.symm, rfl⟩
  · have hf : isMoney n = false := by rw [← Bool.not_eq_true, isMoney_iff]; omega
    have H := Lib.hid hf
    clear hf
    go_enter Try.func47, Try.ntmps47
    go_wp2
    go_ret
    exact ⟨ret_b H.out.symm, rfl⟩

theorem of_any (n : Int) (w : World) (h : -9223372036854775808 ≤ n ∧ n ≤ 9223372036854775807) :
    Calls Try.prog 48 #[.int .i64 n] w fun e w' => e = .returned (.agg #[.int .i64 (hi64 (n)), .int .u64 (lo64 (n))]) ∧ Grew w w' := by
  by_cases c : n < 0
  · have H1 : Hid ((-1 : Int) = hi64 n) := by show (-1 : Int) = _; unfold hi64; omega
    have H2 : Hid (IntKind.u64.wrap n = lo64 n) := by show _ = _; rw [IntKind.wrap_u64]; rfl
    go_enter Try.func48, Try.ntmps48
    go_wp2
    exact bodyPost_ret (v := .agg #[.int .i64 (-1), .int .u64 (IntKind.u64.wrap n)]) (by simp [results, Try.results48, go_sem]) rfl ⟨ret_wv H1.out H2.out, grew_alloc _ _ _⟩
  · have H1 : Hid ((0 : Int) = hi64 n) := by show (0 : Int) = _; unfold hi64; omega
    have H2 : Hid (n = lo64 n) := by show _ = _; unfold lo64; omega
    go_enter Try.func48, Try.ntmps48
    go_wp2
    exact bodyPost_ret (v := .agg #[.int .i64 0, .int .u64 n]) (by simp [results, Try.results48, go_sem]) rfl ⟨ret_wv H1.out H2.out, grew_alloc _ _ _⟩
end Go.Proofs.Ytlmnbafklefmcaa.NumK
namespace Go.Proofs.Ytlmnbafklefmcaa.NumK
open Go.RowKit

/-- The account, the amount. -/
abbrev Lg := Ac × Int
def legV (k m c n : Int) : Value := .agg #[.int .i64 k, .int .i64 m, .int .i64 c, .int .i64 n]
def enLg : En Lg := ⟨4, fun l => [.int .i64 l.1.1, .int .i64 l.1.2.1, .int .i64 l.1.2.2, .int .i64 l.2], fun _ => rfl, fun a v hv => by
  simp at hv; rcases hv with rfl | rfl | rfl | rfl <;> rfl, by decide⟩
abbrev lg0 : Lg := ((0, 0, 0), 0)
theorem info_lg : (Try.prog.info? 50).map (fun i => (i.zero, i.size, i.bytes)) = some (some (legV 0 0 0 0), 4, 32) := by kernel_rfl

/-- A leg of a row, cell by cell. -/
theorem RowE.lg {w : World} {n : Nat} {l : List Lg} {A : Option Addr} (h : RowE enLg w A n l) {j : Nat} (hj : j < n) :
    ∃ b o, A = some ⟨b, o, none⟩ ∧ b < w.heap.size ∧ w.cell? ⟨b, o + j * 4, none⟩ = some (.int .i64 (l.getD j lg0).1.1) ∧ w.cell? ⟨b, o + j * 4 + 1, none⟩ = some (.int .i64 (l.getD j lg0).1.2.1)
      ∧ w.cell? ⟨b, o + j * 4 + 2, none⟩ = some (.int .i64 (l.getD j lg0).1.2.2) ∧ w.cell? ⟨b, o + j * 4 + 3, none⟩ = some (.int .i64 (l.getD j lg0).2) := by
  have hl := h.len
  obtain ⟨b, o, e, hb, hc⟩ := h.at (by omega)
  have hj' : j < l.length := by omega
  have e1 : l.getD j lg0 = l[j] := by simp [List.getD, hj']
  rw [e1]
  exact ⟨b, o, e, hb, hc j hj' 0 (by decide), hc j hj' 1 (by decide), hc j hj' 2 (by decide), hc j hj' 3 (by decide)⟩

def okL (x : Lg) : Bool := rightA x.1.1 x.1.2.1 x.1.2.2 && isMoney x.2
def mayL (l : List Lg) : Bool := l.all okL
theorem may_no (l : List Lg) (j : Nat) (h : j < l.length) (h2 : okL (l.getD j lg0) = false) : false = mayL l := by
  symm
  unfold mayL
  rw [List.all_eq_false]
  exact ⟨l.getD j lg0, by rw [show l.getD j lg0 = l[j] by simp [List.getD, h]]; exact List.getElem_mem h, by rw [h2]; decide⟩
theorem may_succ (l : List Lg) (j : Nat) (h : j < l.length) : mayL (l.take (j + 1)) = (mayL (l.take j) && okL (l.getD j lg0)) := by
  unfold mayL
  rw [take_snoc l j lg0 h, List.all_append]; simp

theorem num1 (n : Int) (w : World) (N : Nat) (hN : w.heap.size = N) :
    Calls Try.prog 40 #[.slice (some ⟨N, 0, none⟩) 1 1] (w.alloc (.cells #[.int .i64 n] 3)) fun e w' => e = .returned (.bool (isMoney n)) ∧ (w.alloc (.cells #[.int .i64 n] 3)) = w' := by
  subst hN
  have C := right_any (some ⟨w.heap.size, 0, none⟩) 1 1 [n] _ (ints1 w n 3) (by omega)
  rwa [show [n].all isMoney = isMoney n by simp] at C

set_option maxRecDepth 100000 in
theorem legsRight_any (A : Option Addr) (n c : Nat) (l : List Lg) (w : World) (h : RowE enLg w A n l) (hn : n ≤ 9223372036854775807) :
    Calls Try.prog 54 #[.slice A n c] w fun e w' => e = .returned (.bool (mayL l)) ∧ Grew w w' := by
  have HI := Lib.hid h
  have HL := Lib.hid h.len
  clear h
  go_enter Try.func54, Try.ntmps54
  go_wp2
  go_loopw [7] (fun v7 wr => ∃ j : Nat, v7 = .int .i64 j ∧ j ≤ n ∧ Hid (mayL (l.take j) = true) ∧ Hid (Grew w wr)) (fun v7 _ => n - (intOf v7).toNat)
  case atStart => exact ⟨0, rfl, by omega, rfl, grew_refl _⟩
  case round =>
    obtain ⟨j, rfl, hj, HM, HG⟩ := hrel
    by_cases hlt : j < n
    · obtain ⟨b, o, rfl, hb, a1, a2, a3, a4⟩ := (HI.out.keep HG.out).lg hlt
      have HS := Lib.hid (may_succ l j (by rw [HL.out]; exact hlt))
      have HN : Hid (okL (l.getD j lg0) = false → false = mayL l) := may_no l j (by rw [HL.out]; exact hlt)
      have CR := fun w => aright_any (l.getD j lg0).1.1 (l.getD j lg0).1.2.1 (l.getD j lg0).1.2.2 w
      have C1 := fun w N hN => num1 (l.getD j lg0).2 w N hN
      have HO : Hid (okL (l.getD j lg0) = (rightA (l.getD j lg0).1.1 (l.getD j lg0).1.2.1 (l.getD j lg0).1.2.2 && isMoney (l.getD j lg0).2)) := rfl
      have i1 : (j : Int) < (n : Int) := by omega
      clear hb
      generalize okL (l.getD j lg0) = ok at *
      unfold acV at CR
      generalize rightA (l.getD j lg0).1.1 (l.getD j lg0).1.2.1 (l.getD j lg0).1.2.2 = R at *
      generalize isMoney (l.getD j lg0).2 = M at *
      generalize (l.getD j lg0).1.1 = q1 at *
      generalize (l.getD j lg0).1.2.1 = q2 at *
      generalize (l.getD j lg0).1.2.2 = q3 at *
      generalize (l.getD j lg0).2 = q4 at *
      cases R
      · have HF := Lib.hid (HN.out (by rw [HO.out]; rfl))
        clear HN HS HO C1
        go_wp2_with (go_at_call 52; ((with_reducible refine (CR _).mono ?_); rintro e w1 ⟨rfl, hg⟩; have HG1 := Lib.hid (grew_trans HG.out (own_back hg)); clear hg))
        go_ret
        exact ⟨ret_b HF.out, HG1.out⟩
      · cases M
        · have HF := Lib.hid (HN.out (by rw [HO.out]; rfl))
          clear HN HS HO
          go_wp2_with (first
            | (go_at_call 52; ((with_reducible refine (CR _).mono ?_); rintro e w1 ⟨rfl, hg⟩; have d4 : w1.cell? ⟨wr.heap.size, 3, none⟩ = some (.int .i64 q4) := own_cell hg 3; have HG1 := Lib.hid (grew_trans HG.out (own_back hg)); clear hg))
            | (go_at_call 40; ((with_reducible refine (C1 _ _ rfl).mono ?_); rintro e w2 ⟨rfl, rfl⟩)))
          go_ret
          exact ⟨ret_b HF.out, grew_trans HG1.out (grew_alloc _ _ _)⟩
        · have HM2 : Hid (mayL (l.take (j + 1)) = true) := by show _ = _; rw [HS.out, HM.out, HO.out]; rfl
          clear HN HS HO
          go_wp2_with (first
            | (go_at_call 52; ((with_reducible refine (CR _).mono ?_); rintro e w1 ⟨rfl, hg⟩; have d4 : w1.cell? ⟨wr.heap.size, 3, none⟩ = some (.int .i64 q4) := own_cell hg 3; have HG1 := Lib.hid (grew_trans HG.out (own_back hg)); clear hg))
            | (go_at_call 40; ((with_reducible refine (C1 _ _ rfl).mono ?_); rintro e w2 ⟨rfl, rfl⟩)))
          go_roundw
          case rel => exact ⟨j + 1, by go_num, by omega, HM2, grew_trans HG1.out (grew_alloc _ _ _)⟩
          case measure => simp only [intOf]; omega
    · obtain rfl : j = n := by omega
      have HE : Hid (true = mayL l) := by
        have := HM.out
        rw [List.take_of_length_le (by rw [HL.out]; exact Nat.le_refl _)] at this
        exact this.symm
      go_wp2
      go_ret
      exact ⟨ret_b HE.out, HG.out⟩
end Go.Proofs.Ytlmnbafklefmcaa.NumK
namespace Go.Proofs.Ytlmnbafklefmcaa.NumK
open Go.RowKit

set_option maxRecDepth 100000 in
theorem refMay_any (A : Option Addr) (n c : Nat) (l : List Lg) (w : World) (h : RowE enLg w A n l) (hn : n ≤ 9223372036854775807) :
    Calls Try.prog 38 #[.slice A n c] w fun e w' => e = .returned (.bool (mayL l)) ∧ Grew w w' := by
  have HI := Lib.hid h
  have HL := Lib.hid h.len
  clear h
  go_enter Try.func38, Try.ntmps38
  go_wp2
  go_loopw [3] (fun v7 wr => ∃ j : Nat, v7 = .int .i64 j ∧ j ≤ n ∧ Hid (mayL (l.take j) = true) ∧ Hid (Grew w wr)) (fun v7 _ => n - (intOf v7).toNat)
  case atStart => exact ⟨0, rfl, by omega, rfl, grew_refl _⟩
  case round =>
    obtain ⟨j, rfl, hj, HM, HG⟩ := hrel
    by_cases hlt : j < n
    · obtain ⟨b, o, rfl, hb, a1, a2, a3, a4⟩ := (HI.out.keep HG.out).lg hlt
      have HS := Lib.hid (may_succ l j (by rw [HL.out]; exact hlt))
      have HN : Hid (okL (l.getD j lg0) = false → false = mayL l) := may_no l j (by rw [HL.out]; exact hlt)
      have CR := fun w => r8right_any (l.getD j lg0).1.1 (l.getD j lg0).1.2.1 (l.getD j lg0).1.2.2 w
      have C1 := fun w => refRight_any (l.getD j lg0).2 w
      have HO : Hid (okL (l.getD j lg0) = (rightA (l.getD j lg0).1.1 (l.getD j lg0).1.2.1 (l.getD j lg0).1.2.2 && isMoney (l.getD j lg0).2)) := rfl
      have i1 : (j : Int) < (n : Int) := by omega
      have HB := Lib.hid hb
      clear hb
      generalize okL (l.getD j lg0) = ok at *
      unfold acV at CR
      generalize rightA (l.getD j lg0).1.1 (l.getD j lg0).1.2.1 (l.getD j lg0).1.2.2 = R at *
      generalize isMoney (l.getD j lg0).2 = M at *
      generalize (l.getD j lg0).1.1 = q1 at *
      generalize (l.getD j lg0).1.2.1 = q2 at *
      generalize (l.getD j lg0).1.2.2 = q3 at *
      generalize (l.getD j lg0).2 = q4 at *
      cases R
      · have HF := Lib.hid (HN.out (by rw [HO.out]; rfl))
        clear HN HS HO C1
        go_wp2_with (go_at_call 35; ((with_reducible refine (CR _).mono ?_); rintro e w1 ⟨rfl, hg⟩; have HG1 := Lib.hid (grew_trans HG.out hg); clear hg))
        go_ret
        exact ⟨ret_b HF.out, HG1.out⟩
      · cases M
        · have HF := Lib.hid (HN.out (by rw [HO.out]; rfl))
          clear HN HS HO
          go_wp2_with (first
            | (go_at_call 35; ((with_reducible refine (CR _).mono ?_); rintro e w1 ⟨rfl, hg⟩; have d4 : w1.cell? ⟨b, o + j * 4 + 3, none⟩ = some (.int .i64 q4) := (grew_cell hg (p := ⟨b, o + j * 4 + 3, none⟩) HB.out).trans a4; have HG1 := Lib.hid (grew_trans HG.out hg); clear hg))
            | (go_at_call 47; ((with_reducible refine (C1 _).mono ?_); rintro e w2 ⟨rfl, rfl⟩)))
          go_ret
          exact ⟨ret_b HF.out, HG1.out⟩
        · have HM2 : Hid (mayL (l.take (j + 1)) = true) := by show _ = _; rw [HS.out, HM.out, HO.out]; rfl
          clear HN HS HO
          go_wp2_with (first
            | (go_at_call 35; ((with_reducible refine (CR _).mono ?_); rintro e w1 ⟨rfl, hg⟩; have d4 : w1.cell? ⟨b, o + j * 4 + 3, none⟩ = some (.int .i64 q4) := (grew_cell hg (p := ⟨b, o + j * 4 + 3, none⟩) HB.out).trans a4; have HG1 := Lib.hid (grew_trans HG.out hg); clear hg))
            | (go_at_call 47; ((with_reducible refine (C1 _).mono ?_); rintro e w2 ⟨rfl, rfl⟩)))
          go_roundw
          case rel => exact ⟨j + 1, by go_num, by omega, HM2, HG1⟩
          case measure => simp only [intOf]; omega
    · obtain rfl : j = n := by omega
      have HE : Hid (true = mayL l) := by
        have := HM.out
        rw [List.take_of_length_le (by rw [HL.out]; exact Nat.le_refl _)] at this
        exact this.symm
      go_wp2
      go_ret
      exact ⟨ret_b HE.out, HG.out⟩
end Go.Proofs.Ytlmnbafklefmcaa.NumK
namespace Go.Proofs.Ytlmnbafklefmcaa.NumK
open Go.RowKit
set_option linter.unusedVariables false

structure OwnC (w : World) (b : Nat) (cs : List Value) : Prop where
  lt : b < w.heap.size
  c : ∀ i, i < cs.length → w.cell? ⟨b, i, none⟩ = cs[i]?
  f : ∀ i, i < cs.length → w.frozen? ⟨b, i, none⟩ = false

theorem OwnC.new (w : World) (cs : List Value) (t : TypeId) (N : Nat) (hN : N = w.heap.size) : OwnC (w.alloc (.cells cs.toArray t)) N cs := by
  subst hN
  refine ⟨by simp, fun i hi => ?_, fun i hi => ?_⟩
  · rw [World.cell?_alloc_at _ _ _ _ (by simp)]; simp
  · go_simp
theorem OwnC.keep {w w' : World} {b : Nat} {cs : List Value} (h : OwnC w b cs) (g : Grew w w') : OwnC w' b cs :=
  ⟨Nat.lt_of_lt_of_le h.lt g.size, fun i hi => (grew_cell g (p := ⟨b, i, none⟩) h.lt).trans (h.c i hi), fun i hi => (Below.frozen g (p := ⟨b, i, none⟩) h.lt).trans (h.f i hi)⟩
theorem OwnC.below {w w' : World} {b B : Nat} {cs : List Value} (h : OwnC w b cs) (g : Below B w w') (hb : b < B) : OwnC w' b cs :=
  ⟨Nat.lt_of_lt_of_le h.lt g.size, fun i hi => (Below.cell g (p := ⟨b, i, none⟩) hb).trans (h.c i hi), fun i hi => (Below.frozen g (p := ⟨b, i, none⟩) hb).trans (h.f i hi)⟩
theorem OwnC.set {w : World} {b : Nat} {cs : List Value} (h : OwnC w b cs) (i : Nat) (v : Value) (hi : i < cs.length) : OwnC (w.setCell ⟨b, i, none⟩ v) b (cs.set i v) := by
  refine ⟨by simp [World.setCell]; exact h.lt, fun j hj => ?_, fun j hj => ?_⟩
  · rw [List.length_set] at hj
    by_cases hc : i = j
    · subst hc
      rw [World.cell?_setCell_same _ _ _ ((h.c i hi).trans (List.getElem?_eq_getElem hi)), List.getElem?_set_self hi]
    · rw [World.cell?_setCell_other _ _ _ _ (by intro e; simp only [Addr.mk.injEq] at e; omega), h.c j hj, List.getElem?_set_ne hc]
  · rw [List.length_set] at hj
    rw [World.frozen?_setCell]; exact h.f j hj
theorem OwnC.other {w : World} {b : Nat} {cs : List Value} (h : OwnC w b cs) (p : Addr) (v : Value) (hp : p.block ≠ b) : OwnC (w.setCell p v) b cs :=
  ⟨by simp [World.setCell]; exact h.lt, fun i hi => (World.cell?_setCell_other _ _ _ _ (by intro e; apply hp; rw [e])).trans (h.c i hi), fun i hi => by rw [World.frozen?_setCell]; exact h.f i hi⟩
theorem OwnC.drew {w : World} {b : Nat} {cs : List Value} (h : OwnC w b cs) : OwnC w.drew b cs := h.keep (Below.drew (grew_refl w))

/-- Cells of a call's own block, written one behind the other. -/
def putC (w : World) (b : Nat) : Nat → List Value → World
  | _, [] => w
  | o, v :: vs => putC (w.setCell ⟨b, o, none⟩ v) b (o + 1) vs
theorem grew_put {w : World} (b : Nat) (hb : w.heap.size ≤ b) : ∀ (vs : List Value) (o : Nat) (w1 : World), Grew w w1 → Grew w (putC w1 b o vs)
  | [], _, _, h => h
  | v :: vs, o, w1, h => grew_put b hb vs (o + 1) _ (grew_set h v hb)
theorem OwnC.put {b : Nat} : ∀ (vs : List Value) (o : Nat) (w : World) (cs : List Value), OwnC w b cs → o + vs.length ≤ cs.length → OwnC (putC w b o vs) b (cs.take o ++ vs ++ cs.drop (o + vs.length))
  | [], o, w, cs, h, _ => by rw [List.append_nil, List.length_nil, Nat.add_zero, List.take_append_drop]; exact h
  | v :: vs, o, w, cs, h, hl => by
    rw [List.length_cons] at hl
    have h2 := OwnC.put vs (o + 1) _ _ (h.set o v (by omega)) (by rw [List.length_set]; omega)
    have e : (cs.set o v).take (o + 1) ++ vs ++ (cs.set o v).drop (o + 1 + vs.length) = cs.take o ++ (v :: vs) ++ cs.drop (o + (v :: vs).length) := by
      rw [List.take_succ_eq_append_getElem (by rw [List.length_set]; omega), List.getElem_set_self, List.take_set_of_le (Nat.le_refl _), List.drop_set_of_lt (by omega), List.length_cons, show o + 1 + vs.length = o + (vs.length + 1) by omega]
      simp
    rw [← e]; exact h2
/-- All of it. -/
theorem OwnC.all {w : World} {b : Nat} {cs : List Value} (h : OwnC w b cs) (vs : List Value) (hl : vs.length = cs.length) : OwnC (putC w b 0 vs) b vs := by
  have h2 := OwnC.put vs 0 w cs h (by omega)
  rw [List.take_zero, List.nil_append, List.drop_eq_nil_of_le (by omega), List.append_nil] at h2
  exact h2
theorem OwnC.at {w : World} {b : Nat} {cs : List Value} (h : OwnC w b cs) (i : Nat) (v : Value) (hv : cs[i]? = some v) : w.cell? ⟨b, i, none⟩ = some v := by
  rcases Nat.lt_or_ge i cs.length with h1 | h1
  · rw [h.c i h1, hv]
  · rw [List.getElem?_eq_none h1] at hv; cases hv
theorem OwnC.fr {w : World} {b : Nat} {cs : List Value} (h : OwnC w b cs) (i : Nat) (hi : i < cs.length) : w.frozen? ⟨b, i, none⟩ = false := h.f i hi
end Go.Proofs.Ytlmnbafklefmcaa.NumK
namespace Go.Proofs.Ytlmnbafklefmcaa.NumK
open Go.RowKit
set_option linter.unusedVariables false

theorem OwnE.same {α : Type} {E : En α} {w w' : World} {base : Nat} {t : TypeId} {v : Value} {l : List α} (h : OwnE E w base t v l) (hs : ∀ k, base ≤ k → w'.heap[k]? = w.heap[k]?) : OwnE E w' base t v l := by
  obtain ⟨hl, h⟩ := h
  refine ⟨hl, ?_⟩
  rcases h with h | ⟨b, cap, cur, hv, hb, hh, r⟩
  · exact Or.inl h
  · exact Or.inr ⟨b, cap, cur, hv, hb, by rw [hs b hb]; exact hh, r⟩
theorem OwnE.set {α : Type} {E : En α} {w : World} {base : Nat} {t : TypeId} {v : Value} {l : List α} (h : OwnE E w base t v l) (b i : Nat) (u : Value) (hb : b < base) : OwnE E (w.setCell ⟨b, i, none⟩ u) base t v l :=
  h.same fun k hk => Below.heap_setCell _ _ _ _ (by show k ≠ b; omega)
theorem OwnE.put {α : Type} {E : En α} {base b : Nat} {t : TypeId} {v : Value} {l : List α} (hb : b < base) : ∀ (vs : List Value) (o : Nat) (w : World), OwnE E w base t v l → OwnE E (putC w b o vs) base t v l
  | [], _, _, h => h
  | u :: vs, o, w, h => OwnE.put hb vs (o + 1) _ (h.set b o u hb)
theorem OwnC.putO {b b2 : Nat} {cs : List Value} (hb : b2 ≠ b) : ∀ (vs : List Value) (o : Nat) (w : World), OwnC w b cs → OwnC (putC w b2 o vs) b cs
  | [], _, _, h => h
  | u :: vs, o, w, h => OwnC.putO hb vs (o + 1) _ (h.other ⟨b2, o, none⟩ u hb)
theorem size_set (w : World) (p : Addr) (v : Value) : (w.setCell p v).heap.size = w.heap.size := by simp [World.setCell]
theorem size_put (b : Nat) : ∀ (vs : List Value) (o : Nat) (w : World), (putC w b o vs).heap.size = w.heap.size
  | [], _, _ => rfl
  | v :: vs, o, w => by show (putC (w.setCell ⟨b, o, none⟩ v) b (o + 1) vs).heap.size = _; rw [size_put b vs]; simp [World.setCell]
end Go.Proofs.Ytlmnbafklefmcaa.NumK
namespace Go.Proofs.Ytlmnbafklefmcaa.NumK
open Go.RowKit
set_option linter.unusedVariables false

/-- A block of the call's own: N cells that may be written. -/
def Slab (w : World) (g N : Nat) : Prop := g < w.heap.size ∧ ∀ k, k < N → (∃ v, w.cell? ⟨g, k, none⟩ = some v) ∧ w.frozen? ⟨g, k, none⟩ = false
theorem Slab.keep {w w' : World} {g N : Nat} (h : Slab w g N) (r : Grew w w') : Slab w' g N :=
  ⟨Nat.lt_of_lt_of_le h.1 r.size, fun k hk => by
    obtain ⟨⟨v, hv⟩, hf⟩ := h.2 k hk
    exact ⟨⟨v, (grew_cell r (p := ⟨g, k, none⟩) h.1).trans hv⟩, (Below.frozen r (p := ⟨g, k, none⟩) h.1).trans hf⟩⟩
theorem Slab.set {w : World} {g N : Nat} (h : Slab w g N) (b k : Nat) (x : Value) : Slab (w.setCell ⟨b, k, none⟩ x) g N :=
  ⟨by simpa [World.setCell] using h.1, fun i hi => by
    obtain ⟨⟨v, hv⟩, hf⟩ := h.2 i hi
    refine ⟨?_, by rw [World.frozen?_setCell]; exact hf⟩
    by_cases e : (⟨b, k, none⟩ : Addr) = ⟨g, i, none⟩
    · rw [e]; exact ⟨x, World.cell?_setCell_same _ _ _ hv⟩
    · exact ⟨v, by rw [World.cell?_setCell_other _ _ _ _ e]; exact hv⟩⟩
theorem OwnE.slab {α : Type} {E : En α} {w : World} {base : Nat} {t : TypeId} {v : Value} {l : List α} (h : OwnE E w base t v l) :
    ∃ A c, v = .slice A l.length c ∧ (l.length = 0 ∨ ∃ g, A = some ⟨g, 0, none⟩ ∧ base ≤ g ∧ Slab w g (l.length * E.size)) := by
  obtain ⟨hl, h⟩ := h
  rcases h with ⟨rfl, h0⟩ | ⟨g, cap, cur, rfl, hb, hh, hc, hm, hs, ht⟩
  · rw [h0]; exact ⟨none, 0, rfl, Or.inl rfl⟩
  · refine ⟨some ⟨g, 0, none⟩, cap, rfl, Or.inr ⟨g, rfl, hb, ?_, fun k hk => ⟨?_, ?_⟩⟩⟩
    · rcases Nat.lt_or_ge g w.heap.size with h1 | h1
      · exact h1
      · rw [Array.getElem?_eq_none h1] at hh; cases hh
    · rw [cell_of_row w g _ cur t (0, 0) hh]
      have hlt : k < cur.toList.length := by
        have e1 : (cur.toList.take (l.length * E.size)).length = l.length * E.size := by rw [ht, E.flat_len]
        rw [List.length_take] at e1; omega
      rw [← Array.getElem?_toList, List.getElem?_eq_getElem hlt]
      exact ⟨_, rfl⟩
    · unfold World.frozen?
      simp [hh]


/-! ### what has been mapped so far -/
def preL {α : Type} (f : α → α) (l : List α) (j : Nat) : List α := (l.take j).map f ++ l.drop j
end Go.Proofs.Ytlmnbafklefmcaa.NumK
namespace Go.Proofs.Ytlmnbafklefmcaa.NumK
open Go.RowKit

/-- The same, and it tells that no other block was touched. -/
theorem step_append_G {α : Type} {E : En α} {ops : Array Oper} {o : Oper} {a : Act} {w : World} {K : Act → World → Prop} {Q : Exit → Act → World → Prop} {X : Prop} (hgd : o.guard = none) (s x : Operand) (T t : TypeId) (z : Value) (by' : Nat)
    (ho : o.op = .call { callee := .builtin .append, args := #[s, x], argTypes := #[T, T] })
    (hT : Try.prog.underlying T = some (.slice t)) (hi : (Try.prog.info? t).map (fun i => (i.zero, i.size, i.bytes)) = some (some z, E.size, by')) (hz : z.cells.size = E.size)
    (base : Nat) (v : Value) (l : List α) (hs : a.eval s = v) (hown : OwnE E w base t v l)
    (ad : Addr) (m c : Nat) (zs : List α) (hx : a.eval x = .slice (some ad) m c) (hR : RowE E w (some ad) m zs)
    (hm : l.length + m ≤ maxLen) (hlim : (l.length + m) * by' ≤ 140737488355328) (hbase : base ≤ w.heap.size)
    (h : ∀ v' w', OwnE E w' base t v' (l ++ zs) → Below base w w' → w.grownBy w' v.ownBlock → K (a.put o.dst v') w') : if Region.wanted o (yielded ops a.tmps) = true then Oper.wp Try.prog o a w K Q else X := by
  have hw : Region.wanted o (yielded ops a.tmps) = true := by simp [Region.wanted, hgd]
  rw [if_pos hw]
  obtain ⟨i, hi, hz0, hz1, hz2⟩ := info_parts hi
  have hl := hR.len
  refine wp_append_own w s x T ho base t i z E.size by' hT hi hz0 hz1 hz2 hz E.pos v l.length _ hs hown ad m c (zs.flatMap E.cs) hx (by rw [E.flat_len, hl]) (fun j u hu => ?_) (fun u hu => ?_) hm hlim hbase (fun v' w' ho' hg _ => ?_)
  · have hj : j < zs.length * E.size := by
      rw [← E.flat_len]
      rcases Nat.lt_or_ge j (zs.flatMap E.cs).length with h1 | h1
      · exact h1
      · rw [List.getElem?_eq_none h1] at hu; cases hu
    have hq : j / E.size < zs.length := Nat.div_lt_of_lt_mul (by rw [Nat.mul_comm]; exact hj)
    have hdm : j / E.size * E.size + j % E.size = j := by rw [Nat.mul_comm]; exact Nat.div_add_mod j E.size
    have hmod : j % E.size < E.size := Nat.mod_lt _ E.pos
    obtain ⟨b, o2, he, hb, hc⟩ := hR.at (by rw [← hl]; exact Nat.lt_of_le_of_lt (Nat.zero_le _) hq)
    cases he
    have e1 := hc (j / E.size) hq (j % E.size) hmod
    rw [← E.flat_at zs _ hq _ hmod, hdm, hu] at e1
    rw [addr_add, ← e1, Nat.add_assoc, hdm]
  · obtain ⟨y, _, hy⟩ := List.mem_flatMap.1 hu
    exact E.one y u hy
  · refine h v' w' ?_ ((Below.refl base w).grown hg hbase fun k hk => (hown.lt k hk).1) hg
    show w'.ownsRow base t E.size v' (l ++ zs).length ((l ++ zs).flatMap E.cs)
    rw [List.length_append, hl, List.flatMap_append]
    exact ho'
end Go.Proofs.Ytlmnbafklefmcaa.NumK
namespace Go.Proofs.Ytlmnbafklefmcaa.NumK
open Go.RowKit

end Go.Proofs.Ytlmnbafklefmcaa.NumK
namespace Go.Proofs.Ytlmnbafklefmcaa.NumK
open Go.RowKit

def sgn (n : Int) : Int := if n < 0 then -1 else 0
theorem sgn_neg {n : Int} (h : n < 0) : sgn n = -1 := by simp [sgn, h]
theorem sgn_pos {n : Int} (h : ¬ n < 0) : sgn n = 0 := by simp [sgn, h]

theorem sign_any (n : Int) (w : World) (h : -9223372036854775808 ≤ n ∧ n ≤ 9223372036854775807) :
    Calls Try.prog 70 #[.int .i64 n] w fun e w' => e = .returned (.int .i64 (sgn n)) ∧ w = w' := by
  go_enter Try.func70, Try.ntmps70
  go_wp2
  go_ret
  exact ⟨ret_i (by unfold sgn; split <;> omega), rfl⟩

theorem hi_of (n : Int) (h : -9223372036854775808 ≤ n ∧ n ≤ 9223372036854775807) : sgn n = hi64 n := by unfold sgn hi64; split <;> omega
theorem lo_of (n : Int) : IntKind.u64.wrap n = lo64 n := by rw [IntKind.wrap_u64]; rfl

theorem wof_any (n : Int) (w : World) (h : -9223372036854775808 ≤ n ∧ n ≤ 9223372036854775807) :
    Calls Try.prog 67 #[.int .i64 n] w fun e w' => e = .returned (.agg #[.int .i64 (hi64 n), .int .u64 (lo64 n)]) ∧ Grew w w' := by
  have C := fun w => sign_any n w h
  have e1 := lo_of n
  rw [hi_of n h] at C
  generalize hi64 n = hh at *
  generalize lo64 n = l at *
  go_enter Try.func67, Try.ntmps67
  go_wp2_with (go_at_call 70; ((with_reducible refine (C _).mono ?_); rintro e w' ⟨rfl, rfl⟩))
  exact bodyPost_ret (v := .agg #[.int .i64 hh, .int .u64 l]) (by simp [results, Try.results67, go_sem]) rfl ⟨rfl, grew_alloc _ _ _⟩

end Go.Proofs.Ytlmnbafklefmcaa.NumK
namespace Go.Proofs.Ytlmnbafklefmcaa.NumK
open Go.RowKit

end Go.Proofs.Ytlmnbafklefmcaa.NumK
