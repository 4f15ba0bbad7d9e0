/- Auctions: what is torn up of a position of a right book. -/
import Derived.Test.YtahioajpmlochaaGreatRH2
import Derived.Deep.AppendLies
import Derived.Test.YtahioajpmlochaaGreatRH1
import Derived.Laws.Bits64b
import Derived.Deep.DeepCutAuto
import Derived.Deep.Light
import Derived.Laws.Externs
import Derived.Lib.Mul64
import Derived.Deep.QuietTactic
import Derived.BigQuiet
namespace Go.Proofs.YtahioajpmlochaaGreat.NumK
open Go.RowKit
set_option linter.unusedVariables false

def absA (n : Int) : Int := max n (-n)
/-- On the other side of q? -/
def oppB (q y : Int) : Bool := (decide (0 < q) && decide (y < 0)) || (decide (q < 0) && decide (0 < y))
def othP (l : List Po) (n q : Int) : List Po := l.filter fun x => decide (x.2.1 = n) && oppB q x.2.2.1
def othW (l : List Po) (n q : Int) : List Int := (othP l n q).map fun x => absA x.2.2.1
theorem oth_cons (x : Po) (l : List Po) (n q : Int) : othP (x :: l) n q = if x.2.1 = n ∧ oppB q x.2.2.1 = true then x :: othP l n q else othP l n q := by
  unfold othP
  rw [List.filter_cons]
  by_cases h1 : x.2.1 = n <;> by_cases h2 : oppB q x.2.2.1 = true <;> simp [h1, h2]
def posS (l : List Po) (n : Int) : Int := (l.map fun x => if x.2.1 = n then max x.2.2.1 0 else 0).sum
def negS (l : List Po) (n : Int) : Int := (l.map fun x => if x.2.1 = n then max (-x.2.2.1) 0 else 0).sum
theorem pos_neg (l : List Po) (n : Int) : posS l n - negS l n = qI l n := by
  induction l with
  | nil => rfl
  | cons x l ih =>
    unfold posS negS at ih ⊢
    rw [List.map_cons, List.map_cons, List.sum_cons, List.sum_cons, qI_cons, ← ih]
    unfold isI
    by_cases h : x.2.1 = n
    · simp only [h, if_true, decide_true]; omega
    · simp only [h, if_false, decide_false, Bool.false_eq_true]; omega
theorem pos_ge (l : List Po) (n : Int) : 0 ≤ posS l n ∧ 0 ≤ negS l n := by
  induction l with
  | nil => exact ⟨Int.le_refl _, Int.le_refl _⟩
  | cons x l ih =>
    unfold posS negS at ih ⊢
    rw [List.map_cons, List.map_cons, List.sum_cons, List.sum_cons]
    split <;> omega
theorem pos_mem {l : List Po} {x : Po} (h : x ∈ l) : x.2.2.1 ≤ posS l x.2.1 ∧ -x.2.2.1 ≤ negS l x.2.1 := by
  induction l with
  | nil => simp at h
  | cons y l ih =>
    have h0 := pos_ge l x.2.1
    rcases List.mem_cons.1 h with rfl | h
    · unfold posS negS at h0 ⊢
      rw [List.map_cons, List.map_cons, List.sum_cons, List.sum_cons, if_pos rfl, if_pos rfl]
      omega
    · have := ih h
      unfold posS negS at this h0 ⊢
      rw [List.map_cons, List.map_cons, List.sum_cons, List.sum_cons]
      split <;> omega
theorem oth_sum (l : List Po) (n q : Int) : (othW l n q).sum = if 0 < q then negS l n else if q < 0 then posS l n else 0 := by
  induction l with
  | nil => unfold othW othP posS negS; simp
  | cons x l ih =>
    unfold othW at ih ⊢
    rw [oth_cons]
    unfold posS negS at ih ⊢
    rw [List.map_cons, List.map_cons, List.sum_cons, List.sum_cons]
    unfold oppB at *
    by_cases h1 : x.2.1 = n
    · simp only [h1, true_and, if_true]
      rcases Int.lt_trichotomy q 0 with hq | hq | hq
      · have q1 : ¬ 0 < q := by omega
        simp only [q1, hq, decide_false, decide_true, Bool.false_and, Bool.true_and, Bool.false_or, decide_eq_true_eq, if_false, if_true] at ih ⊢
        split
        · rw [List.map_cons, List.sum_cons, ih]; unfold absA; omega
        · rw [ih]; omega
      · subst hq; simp at ih ⊢; exact ih
      · have q1 : ¬ q < 0 := by omega
        simp only [q1, hq, decide_false, decide_true, Bool.false_and, Bool.true_and, Bool.or_false, decide_eq_true_eq, if_false, if_true] at ih ⊢
        split
        · rw [List.map_cons, List.sum_cons, ih]; unfold absA; omega
        · rw [ih]; omega
    · simp only [h1, false_and, if_false, Int.zero_add]
      exact ih
/-- Those on the other side have as much as one position. -/
theorem oth_may {l : List Po} (h : rightPs l = true) {x : Po} (hx : x ∈ l) : absA x.2.2.1 ≤ (othW l x.2.1 x.2.2.1).sum := by
  have hr := (rightPs_iff l).1 h
  have hk := (okK_iff _).1 (right_keys h x hx)
  have h0 := hr.2.2 x.2.1 hk.2.1 hk.2.2
  have h1 := pos_neg l x.2.1
  have h2 := pos_mem hx
  have h3 := pos_ge l x.2.1
  rw [oth_sum]
  unfold absA
  split
  · omega
  · split
    · omega
    · omega

/-! ### legs -/
/-- Legs of fills: long: s = 1, short: s = -1. -/
def legsF (k : Ky) (s : Int) (fs : List Fi) : List Po := fs.flatMap fun f => [(f.1, k.2, s * f.2.1, s * (f.2.1 * f.2.2)), (k.1, k.2, -(s * f.2.1), -(s * (f.2.1 * f.2.2)))]
def filW (fs : List Fi) (w : Int) : Int := filS (fs.filter fun f => decide (f.1 = w))
theorem filW_cons (f : Fi) (fs : List Fi) (w : Int) : filW (f :: fs) w = (if f.1 = w then f.2.1 else 0) + filW fs w := by
  unfold filW
  rw [List.filter_cons]
  by_cases h : f.1 = w
  · simp only [h, decide_true, if_true]; rw [filS_cons]
  · simp only [h, decide_false, if_false, Bool.false_eq_true]; omega
theorem legsF_cons (k : Ky) (s : Int) (f : Fi) (fs : List Fi) : legsF k s (f :: fs) = (f.1, k.2, s * f.2.1, s * (f.2.1 * f.2.2)) :: (k.1, k.2, -(s * f.2.1), -(s * (f.2.1 * f.2.2))) :: legsF k s fs := by
  unfold legsF; rw [List.flatMap_cons]; rfl
theorem qK_legsF (k : Ky) (s : Int) (fs : List Fi) (j : Ky) : qK (legsF k s fs) j = (if j.2 = k.2 then s * filW fs j.1 else 0) - (if j = k then s * filS fs else 0) := by
  induction fs with
  | nil =>
    show (0 : Int) = _
    unfold filW filS
    simp
  | cons f fs ih =>
    rw [legsF_cons, qK_cons, qK_cons, ih, filW_cons, filS_cons]
    obtain ⟨j1, j2⟩ := j
    obtain ⟨k1, k2⟩ := k
    unfold isK
    by_cases h2 : k2 = j2
    · subst h2
      by_cases h1 : f.1 = j1 <;> by_cases h3 : k1 = j1 <;> simp [h1, h3, Int.mul_add] <;> (try (have h4 : ¬ j1 = k1 := fun e => h3 e.symm; simp [h4])) <;> omega
    · have h3 : ¬ j2 = k2 := fun e => h2 e.symm
      simp [h2, h3]
theorem qI_legsF (k : Ky) (s : Int) (fs : List Fi) (n : Int) : qI (legsF k s fs) n = 0 ∧ cI (legsF k s fs) n = 0 := by
  induction fs with
  | nil => exact ⟨rfl, rfl⟩
  | cons f fs ih =>
    rw [legsF_cons, qI_cons, qI_cons, ih.1, cI_cons, cI_cons, ih.2]
    unfold isI
    by_cases h : k.2 = n <;> simp [h] <;> omega
theorem flat_legsF (k : Ky) (s : Int) (fs : List Fi) : flatI (legsF k s fs) = true := (flatI_iff _).2 fun n _ _ => (qI_legsF k s fs n).1

/-! ### what is torn up -/
/-- The fills: of those on the other side, each that bears something. -/
def tornF : List Po → List Int → Int → List Fi
  | x :: xs, p :: ps, c => if 0 < p then (x.1, p, c) :: tornF xs ps c else tornF xs ps c
  | _, _, _ => []
structure Borne (xs : List Po) (ps : List Int) (m : Int) : Prop where
  len : ps.length = xs.length
  low : ∀ i, i < xs.length → 0 ≤ ps.getD i 0 ∧ ps.getD i 0 ≤ absA (xs.getD i po0).2.2.1
  sum : ps.sum = m
theorem Borne.tail {x : Po} {xs : List Po} {p : Int} {ps : List Int} {m : Int} (h : Borne (x :: xs) (p :: ps) m) : (0 ≤ p ∧ p ≤ absA x.2.2.1) ∧ Borne xs ps (m - p) := by
  refine ⟨h.low 0 (by simp), ⟨by have := h.len; simpa using this, fun i hi => by simpa using h.low (i + 1) (by simp; omega), ?_⟩⟩
  have := h.sum
  rw [List.sum_cons] at this
  omega
theorem torn_sum : ∀ (xs : List Po) (ps : List Int) (m c : Int), Borne xs ps m → filS (tornF xs ps c) = m
  | [], ps, m, c, h => by
    have h1 : ps = [] := List.eq_nil_of_length_eq_zero h.len
    subst h1
    have := h.sum
    simp at this
    subst this
    rfl
  | x :: xs, [], m, c, h => by have := h.len; simp at this
  | x :: xs, p :: ps, m, c, h => by
    have h1 := h.tail
    unfold tornF
    split
    · rw [filS_cons, torn_sum xs ps (m - p) c h1.2]; dsimp only; omega
    · rw [torn_sum xs ps (m - p) c h1.2]; omega
/-- What those of a number have. -/
def hasW (xs : List Po) (w : Int) : Int := (xs.map fun x => if x.1 = w then absA x.2.2.1 else 0).sum
theorem hasW_cons (x : Po) (xs : List Po) (w : Int) : hasW (x :: xs) w = (if x.1 = w then absA x.2.2.1 else 0) + hasW xs w := by unfold hasW; rw [List.map_cons, List.sum_cons]
theorem torn_le : ∀ (xs : List Po) (ps : List Int) (m c w : Int), Borne xs ps m → 0 ≤ filW (tornF xs ps c) w ∧ filW (tornF xs ps c) w ≤ hasW xs w
  | [], ps, m, c, w, h => by
    have h1 : ps = [] := List.eq_nil_of_length_eq_zero h.len
    subst h1
    exact ⟨Int.le_refl _, Int.le_refl _⟩
  | x :: xs, [], m, c, w, h => by have := h.len; simp at this
  | x :: xs, p :: ps, m, c, w, h => by
    have h1 := h.tail
    have h2 := torn_le xs ps (m - p) c w h1.2
    rw [hasW_cons]
    unfold tornF
    split
    · rw [filW_cons]; dsimp only; split <;> omega
    · split <;> omega
theorem torn_mem : ∀ (xs : List Po) (ps : List Int) (c : Int) (f : Fi), f ∈ tornF xs ps c → (∃ x ∈ xs, f.1 = x.1) ∧ 1 ≤ f.2.1 ∧ f.2.1 ∈ ps ∧ f.2.2 = c
  | [], ps, c, f, h => by unfold tornF at h; simp at h
  | x :: xs, [], c, f, h => by unfold tornF at h; simp at h
  | x :: xs, p :: ps, c, f, h => by
    unfold tornF at h
    split at h
    · rcases List.mem_cons.1 h with rfl | h
      · exact ⟨⟨x, by simp, rfl⟩, by dsimp only; omega, by simp, rfl⟩
      · obtain ⟨⟨y, hy, e⟩, h2, h3, h4⟩ := torn_mem xs ps c f h
        exact ⟨⟨y, List.mem_cons_of_mem _ hy, e⟩, h2, List.mem_cons_of_mem _ h3, h4⟩
    · obtain ⟨⟨y, hy, e⟩, h2, h3, h4⟩ := torn_mem xs ps c f h
      exact ⟨⟨y, List.mem_cons_of_mem _ hy, e⟩, h2, List.mem_cons_of_mem _ h3, h4⟩
/-- Of the other side of an instrument of right positions, each member has one position at most. -/
theorem oth_of {l : List Po} (h : rightPs l = true) (n q w : Int) : hasW (othP l n q) w = if oppB q (qK l (w, n)) = true then absA (qK l (w, n)) else 0 := by
  have hr := (rightPs_iff l).1 h
  have gen : ∀ (m : List Po), (∀ x ∈ m, okK (keyP x) = true) → Rise noPo m → hasW (othP m n q) w = if oppB q (qK m (w, n)) = true then absA (qK m (w, n)) else 0 := by
    intro m
    induction m with
    | nil => intro _ _; unfold othP hasW; rw [qK_nil]; unfold oppB; simp
    | cons x m ih =>
      intro hk hR
      have hR2 := List.pairwise_cons.1 hR
      have ih := ih (fun y hy => hk y (List.mem_cons_of_mem _ hy)) hR2.2
      rw [oth_cons, qK_cons]
      by_cases hx : isK (w, n) x = true
      · have hkx := (isK_iff _ _).1 hx
        have h0 : qK m (w, n) = 0 := by
          have := sum_of_not (l := m) (k := (w, n)) fun y hy he => by
            have h1 := hR2.1 y hy
            have h2 : noPo x = noPo y := by show noK (keyP x) = noK (keyP y); rw [hkx, he]
            omega
          unfold sumK2 at this
          simp only [Prod.mk.injEq] at this
          exact this.1
        rw [h0] at ih ⊢
        have h1 : x.1 = w ∧ x.2.1 = n := by unfold keyP at hkx; simpa using hkx
        have h2 : hasW (othP m n q) w = 0 := by rw [ih]; unfold oppB; simp
        rw [if_pos hx]
        simp only [h1.2, true_and, Int.add_zero]
        split
        · rw [hasW_cons, h2, if_pos h1.1]; omega
        · exact h2
      · rw [if_neg hx]
        simp only [Int.zero_add]
        split
        · rename_i h1
          rw [hasW_cons, ih, if_neg ?_]
          · omega
          · intro e
            apply hx
            rw [isK_iff]
            show (x.1, x.2.1) = (w, n)
            rw [e, h1.1]
        · exact ih
  exact gen l (right_keys h) hr.2.1
/-- How positions stand behind a tear-up. -/
theorem torn_at {l : List Po} (h : rightPs l = true) {x : Po} (hx : x ∈ l) (hq : x.2.2.1 ≠ 0) {ps : List Int} {m : Int} (c : Int) (hb : Borne (othP l x.2.1 x.2.2.1) ps m) (hm : 0 ≤ m ∧ m ≤ absA x.2.2.1) (s : Int) (hs : s = if 0 < x.2.2.1 then 1 else -1) (j : Ky) :
    let y := qK l j + qK (legsF (keyP x) s (tornF (othP l x.2.1 x.2.2.1) ps c)) j
    (0 ≤ qK l j → 0 ≤ y ∧ y ≤ qK l j) ∧ (qK l j ≤ 0 → qK l j ≤ y ∧ y ≤ 0) ∧ (j = keyP x → absA y = absA x.2.2.1 - m) := by
  intro y
  have hself := of_self h hx
  have hle := torn_le _ _ _ c j.1 hb
  rw [oth_of h] at hle
  have hsum := torn_sum _ _ _ c hb
  have hy : y = qK l j + qK (legsF (keyP x) s (tornF (othP l x.2.1 x.2.2.1) ps c)) j := rfl
  rw [qK_legsF, hsum] at hy
  have hk2 : (keyP x).2 = x.2.1 := rfl
  rw [hk2] at hy
  generalize filW (tornF (othP l x.2.1 x.2.2.1) ps c) j.1 = g at hle hy
  clear_value y
  obtain ⟨j1, j2⟩ := j
  dsimp only at hle hy ⊢
  by_cases hj : j2 = x.2.1
  · subst hj
    rw [if_pos rfl] at hy
    by_cases he : (j1, x.2.1) = keyP x
    · rw [if_pos he] at hy
      rw [he, hself.1] at hle hy
      rw [he, hself.1]
      have ho : oppB x.2.2.1 x.2.2.1 = false := by unfold oppB; simp; omega
      rw [ho] at hle
      simp only [Bool.false_eq_true, if_false] at hle
      have hg : g = 0 := by omega
      subst hg
      unfold absA at hm ⊢
      split at hs
      · subst hs; refine ⟨fun _ => ?_, fun _ => ?_, fun _ => ?_⟩ <;> omega
      · subst hs; refine ⟨fun _ => ?_, fun _ => ?_, fun _ => ?_⟩ <;> omega
    · rw [if_neg he] at hy
      generalize qK l (j1, x.2.1) = z at hle hy ⊢
      unfold absA oppB at *
      split at hs
      · rename_i h0
        subst hs
        have h1 : ¬ x.2.2.1 < 0 := by omega
        simp only [h0, h1, decide_true, decide_false, Bool.true_and, Bool.false_and, Bool.or_false, decide_eq_true_eq] at hle
        split at hle
        · exact ⟨fun _ => by omega, fun _ => by omega, fun e => absurd e he⟩
        · exact ⟨fun _ => by omega, fun _ => by omega, fun e => absurd e he⟩
      · rename_i h0
        subst hs
        have h1 : x.2.2.1 < 0 := by omega
        simp only [h0, h1, decide_true, decide_false, Bool.true_and, Bool.false_and, Bool.false_or, decide_eq_true_eq] at hle
        split at hle
        · exact ⟨fun _ => by omega, fun _ => by omega, fun e => absurd e he⟩
        · exact ⟨fun _ => by omega, fun _ => by omega, fun e => absurd e he⟩
  · rw [if_neg hj, if_neg ?_] at hy
    · exact ⟨fun _ => by omega, fun _ => by omega, fun e => absurd (congrArg Prod.snd e) hj⟩
    · intro e; exact hj (congrArg Prod.snd e)
end Go.Proofs.YtahioajpmlochaaGreat.NumK
namespace Go.Proofs.YtahioajpmlochaaGreat.NumK
open Go.RowKit
set_option linter.unusedVariables false

theorem rwithin_any (n lo hi : Int) (w : World) : Calls Tryz.prog 26 #[.int .i64 n, .int .i64 lo, .int .i64 hi] w fun e w' => e = .returned (.bool (wi n lo hi)) ∧ w = w' := by
  by_cases h1 : lo ≤ n <;> by_cases h2 : n ≤ hi
  all_goals
    (have HR : Hid (wi n lo hi = (decide (lo ≤ n) && decide (n ≤ hi))) := rfl
     generalize wi n lo hi = R at *
     simp only [h1, h2, decide_true, decide_false, Bool.and_true, Bool.and_false] at HR
     go_enter Tryz.func26, Tryz.ntmps26
     go_wp2
     go_ret
     exact ⟨ret_b HR.out.symm, rfl⟩)
theorem rwho_any (n : Int) (w : World) : Calls Tryz.prog 47 #[.int .i64 n] w fun e w' => e = .returned (.bool (wi n 1 16)) ∧ w = w' := by
  have CW := fun w => rwithin_any n 1 16 w
  generalize wi n 1 16 = R at *
  go_enter Tryz.func47, Tryz.ntmps47
  go_wp2_with (go_at_call 26; ((with_reducible refine (CW _).mono ?_); rintro e w1 ⟨rfl, rfl⟩))
  go_ret
  exact ⟨rfl, rfl⟩
end Go.Proofs.YtahioajpmlochaaGreat.NumK
namespace Go.Proofs.YtahioajpmlochaaGreat.NumK
open Go.RowKit
set_option linter.unusedVariables false

theorem OwnE.same {α : Type} {E : En α} {w w' : World} {base : Nat} {t : TypeId} {v : Value} {l : List α} (h : OwnE E w base t v l) (hs : ∀ k, base ≤ k → w'.heap[k]? = w.heap[k]?) : OwnE E w' base t v l := by
  obtain ⟨hl, h⟩ := h
  refine ⟨hl, ?_⟩
  rcases h with h | ⟨b, cap, cur, hv, hb, hh, r⟩
  · exact Or.inl h
  · exact Or.inr ⟨b, cap, cur, hv, hb, by rw [hs b hb]; exact hh, r⟩
theorem OwnE.set {α : Type} {E : En α} {w : World} {base : Nat} {t : TypeId} {v : Value} {l : List α} (h : OwnE E w base t v l) (b i : Nat) (u : Value) (hb : b < base) : OwnE E (w.setCell ⟨b, i, none⟩ u) base t v l :=
  h.same fun k hk => Below.heap_setCell _ _ _ _ (by show k ≠ b; omega)
theorem OwnE.put {α : Type} {E : En α} {base b : Nat} {t : TypeId} {v : Value} {l : List α} (hb : b < base) : ∀ (vs : List Value) (o : Nat) (w : World), OwnE E w base t v l → OwnE E (putC w b o vs) base t v l
  | [], _, _, h => h
  | u :: vs, o, w, h => OwnE.put hb vs (o + 1) _ (h.set b o u hb)
theorem OwnC.putO {b b2 : Nat} {cs : List Value} (hb : b2 ≠ b) : ∀ (vs : List Value) (o : Nat) (w : World), OwnC w b cs → OwnC (putC w b2 o vs) b cs
  | [], _, _, h => h
  | u :: vs, o, w, h => OwnC.putO hb vs (o + 1) _ (h.other ⟨b2, o, none⟩ u hb)
theorem size_set (w : World) (p : Addr) (v : Value) : (w.setCell p v).heap.size = w.heap.size := by simp [World.setCell]
theorem le_set {n : Nat} {w : World} (p : Addr) (v : Value) (h : n ≤ w.heap.size) : n ≤ (w.setCell p v).heap.size := by rw [size_set]; exact h
end Go.Proofs.YtahioajpmlochaaGreat.NumK
namespace Go.Proofs.YtahioajpmlochaaGreat.NumK
open Go.RowKit
set_option linter.unusedVariables false

theorem grew_size {w w' : World} (g : Grew w w') : w.heap.size ≤ w'.heap.size := g.size
end Go.Proofs.YtahioajpmlochaaGreat.NumK
namespace Go.Proofs.YtahioajpmlochaaGreat.NumK
open Go.RowKit
set_option linter.unusedVariables false

structure Two {α β : Type} (E : En α) (F : En β) (w : World) (base : Nat) (s t : TypeId) (va vb : Value) (la : List α) (lb : List β) : Prop where
  a : OwnE E w base s va la
  b : OwnE F w base t vb lb
  ne : ∀ g, va.ownBlock = some g → vb.ownBlock ≠ some g

section
variable {α β : Type} {E : En α} {F : En β} {w w' : World} {base : Nat} {s t : TypeId} {va vb : Value} {la : List α} {lb : List β}
theorem Two.nil (E : En α) (F : En β) (w : World) (base : Nat) (s t : TypeId) : Two E F w base s t (.slice none 0 0) (.slice none 0 0) [] [] := ⟨OwnE.nil _ _ _ _, OwnE.nil _ _ _ _, fun g h => by cases h⟩
theorem Two.keep (h : Two E F w base s t va vb la lb) (g : Grew w w') : Two E F w' base s t va vb la lb := ⟨h.a.keep g, h.b.keep g, h.ne⟩
theorem Two.swap (h : Two E F w base s t va vb la lb) : Two F E w base t s vb va lb la := ⟨h.b, h.a, fun g h1 h2 => h.ne g h2 h1⟩
theorem Two.grown (h : Two E F w base s t va vb la lb) {x : List α} {v' : Value} (ho : OwnE E w' base s v' x) (hg : w.grownBy w' va.ownBlock) (hat : ∀ g, v'.ownBlock = some g → va.ownBlock = some g ∨ g = w.heap.size) : Two E F w' base s t v' vb x lb := by
  refine ⟨ho, World.ownsRow.kept h.b hg ?_, fun g h1 h2 => ?_⟩
  · cases hv : vb.ownBlock with
    | none => exact Or.inl rfl
    | some g => exact Or.inr fun e => h.ne g e.symm hv
  · rcases hat g h1 with h3 | h3
    · exact h.ne g h3 h2
    · have := (World.ownsRow.lt h.b g h2).2
      omega
theorem Two.below (h : Two E F w base s t va vb la lb) (hg : w.grownBy w' va.ownBlock) (hb : base ≤ w.heap.size) : Below base w w' := (Below.refl base w).grown hg hb fun k hk => (World.ownsRow.lt h.a k hk).1

/-- What one element in a block gives an append. -/
theorem news_one {N : Nat} {x : α} (h : RowE E w (some ⟨N, 0, none⟩) 1 [x]) : ∀ j u, (E.cs x)[j]? = some u → w.cell? ((⟨N, 0, none⟩ : Addr).add j) = some u := by
  intro j u hu
  obtain ⟨b, o, he, hb, hc⟩ := h.at (by omega)
  cases he
  have hj : j < E.size := by
    rw [← E.len x]
    rcases Nat.lt_or_ge j (E.cs x).length with h1 | h1
    · exact h1
    · rw [List.getElem?_eq_none h1] at hu; cases hu
  have := hc 0 (by simp) j hj
  rw [addr_add, ← hu]
  simpa using this
end

section
variable {α β : Type} {E : En α} {F : En β} {w : World} {base : Nat} {s t : TypeId} {va vb : Value} {la : List α} {lb : List β} {ops : Array Oper} {rest : List Oper} {o : Oper} {a : Act} {Q : Exit → Act → World → Prop} {K : Act → World → Prop} {X : Prop}
/-- One more in the first row. -/
theorem wpList_two (hgd : o.guard = none) (p q : Operand) (T : TypeId) (z : Value) (by' : Nat)
    (ho : o.op = .call { callee := .builtin .append, args := #[p, q], argTypes := #[T, T] })
    (hT : Tryz.prog.underlying T = some (.slice s)) (hi : (Tryz.prog.info? s).map (fun i => (i.zero, i.size, i.bytes)) = some (some z, E.size, by')) (hz : z.cells.size = E.size)
    (h : Two E F w base s t va vb la lb) (hs : a.eval p = va) (N : Nat) (x : α) (hx : a.eval q = .slice (some ⟨N, 0, none⟩) 1 1) (hR : RowE E w (some ⟨N, 0, none⟩) 1 [x])
    (hm : la.length + 1 ≤ maxLen) (hlim : (la.length + 1) * by' ≤ 140737488355328) (hbase : base ≤ w.heap.size)
    (k : ∀ v' w', Two E F w' base s t v' vb (la ++ [x]) lb → Below base w w' → wpList Tryz.prog ops Q rest (a.put o.dst v') w') : wpList Tryz.prog ops Q (o :: rest) a w := by
  obtain ⟨i, hi, hz0, hz1, hz2⟩ := info_parts hi
  refine wpList_append_lies w hgd p q T ho base s i z E.size by' hT hi hz0 hz1 hz2 hz E.pos va la.length _ hs h.a ⟨N, 0, none⟩ 1 1 (E.cs x) hx (by rw [E.len, Nat.one_mul]) (news_one hR) (E.one x) (by omega) hm hlim hbase _ rfl fun g cap w' h2 h3 h4 h5 => k _ w' (h.grown (va := va) ?_ h3 fun g' hg' => ?_) (h.below h3 hbase)
  · show w'.ownsRow base s E.size _ (la ++ [x]).length ((la ++ [x]).flatMap E.cs)
    rw [List.length_append, List.flatMap_append]
    simpa using h2
  · have : g = g' := by simpa [Value.ownBlock] using hg'
    subst this
    exact h4
theorem step_two (hgd : o.guard = none) (p q : Operand) (T : TypeId) (z : Value) (by' : Nat)
    (ho : o.op = .call { callee := .builtin .append, args := #[p, q], argTypes := #[T, T] })
    (hT : Tryz.prog.underlying T = some (.slice s)) (hi : (Tryz.prog.info? s).map (fun i => (i.zero, i.size, i.bytes)) = some (some z, E.size, by')) (hz : z.cells.size = E.size)
    (h : Two E F w base s t va vb la lb) (hs : a.eval p = va) (N : Nat) (x : α) (hx : a.eval q = .slice (some ⟨N, 0, none⟩) 1 1) (hR : RowE E w (some ⟨N, 0, none⟩) 1 [x])
    (hm : la.length + 1 ≤ maxLen) (hlim : (la.length + 1) * by' ≤ 140737488355328) (hbase : base ≤ w.heap.size)
    (k : ∀ v' w', Two E F w' base s t v' vb (la ++ [x]) lb → Below base w w' → w.grownBy w' va.ownBlock → K (a.put o.dst v') w') : if Region.wanted o (yielded ops a.tmps) = true then Oper.wp Tryz.prog o a w K Q else X := by
  obtain ⟨i, hi, hz0, hz1, hz2⟩ := info_parts hi
  refine step_append_lies w hgd p q T ho base s i z E.size by' hT hi hz0 hz1 hz2 hz E.pos va la.length _ hs h.a ⟨N, 0, none⟩ 1 1 (E.cs x) hx (by rw [E.len, Nat.one_mul]) (news_one hR) (E.one x) (by omega) hm hlim hbase _ rfl fun g cap w' h2 h3 h4 h5 => k _ w' (h.grown (va := va) ?_ h3 fun g' hg' => ?_) (h.below h3 hbase) h3
  · show w'.ownsRow base s E.size _ (la ++ [x]).length ((la ++ [x]).flatMap E.cs)
    rw [List.length_append, List.flatMap_append]
    simpa using h2
  · have : g = g' := by simpa [Value.ownBlock] using hg'
    subst this
    exact h4
end
/-- A row in another block than the one that was appended to. -/
theorem RowE.grown {α : Type} {E : En α} {w w' : World} {N n : Nat} {l : List α} {row : Option Nat} (h : RowE E w (some ⟨N, 0, none⟩) n l) (g : w.grownBy w' row) (hne : some N ≠ row) : RowE E w' (some ⟨N, 0, none⟩) n l := by
  refine ⟨h.len, fun hn => ?_⟩
  obtain ⟨b, o, e, hb, hc⟩ := h.at hn
  cases e
  exact ⟨N, 0, rfl, Nat.lt_of_lt_of_le hb g.size, fun j hj => ⟨_, rfl, fun i hi => (g.cell_far ⟨N, _, none⟩ hb hne).trans (hc j hj i hi)⟩⟩
theorem Two.far {α β : Type} {E : En α} {F : En β} {w : World} {base : Nat} {s t : TypeId} {va vb : Value} {la : List α} {lb : List β} (h : Two E F w base s t va vb la lb) {N : Nat} (hN : w.heap.size ≤ N) : some N ≠ va.ownBlock ∧ some N ≠ vb.ownBlock :=
  ⟨fun e => by have := (World.ownsRow.lt h.a N e.symm).2; omega, fun e => by have := (World.ownsRow.lt h.b N e.symm).2; omega⟩
/-- One element in a block made now. -/
theorem RowE.one1 {α : Type} (E : En α) (w : World) (x : α) (t : TypeId) (cs : Array Value) (N : Nat) (hN : N = w.heap.size) (hc : cs = (E.cs x).toArray) : RowE E (w.alloc (.cells cs t)) (some ⟨N, 0, none⟩) 1 [x] := by
  subst hN; subst hc
  refine ⟨rfl, fun _ => ⟨_, _, rfl, by simp, fun j hj => ⟨_, rfl, fun i hi => ?_⟩⟩⟩
  have hj : j < 1 := hj
  obtain rfl : j = 0 := by omega
  show World.cell? _ ⟨_, 0 + 0 * E.size + i, none⟩ = _
  rw [Nat.zero_mul, Nat.zero_add, World.cell?_alloc_at _ _ _ _ rfl]
  simp
end Go.Proofs.YtahioajpmlochaaGreat.NumK
namespace Go.Proofs.YtahioajpmlochaaGreat.NumK
open Go.RowKit
set_option linter.unusedVariables false

structure Fam {κ α : Type} (E : En α) (w : World) (base : Nat) (t : TypeId) (v : κ → Value) (rows : κ → List α) : Prop where
  own : ∀ k, OwnE E w base t (v k) (rows k)
  ne : ∀ k k', k ≠ k' → ∀ g, (v k).ownBlock = some g → (v k').ownBlock ≠ some g

def upd {κ β : Type} [DecidableEq κ] (f : κ → β) (k : κ) (x : β) : κ → β := fun i => if i = k then x else f i
theorem upd_at {κ β : Type} [DecidableEq κ] (f : κ → β) (k : κ) (x : β) : upd f k x k = x := if_pos rfl
theorem upd_ne {κ β : Type} [DecidableEq κ] (f : κ → β) {k i : κ} (x : β) (h : i ≠ k) : upd f k x i = f i := if_neg h

section
variable {κ α : Type} {E : En α} {w w' : World} {base : Nat} {t : TypeId} {v : κ → Value} {rows : κ → List α}
theorem Fam.nil (E : En α) (w : World) (base : Nat) (t : TypeId) : Fam (κ := κ) E w base t (fun _ => .slice none 0 0) (fun _ => []) := ⟨fun _ => OwnE.nil _ _ _ _, fun _ _ _ g h => by cases h⟩
theorem Fam.keep (h : Fam E w base t v rows) (g : Grew w w') : Fam E w' base t v rows := ⟨fun k => (h.own k).keep g, h.ne⟩
theorem Fam.mono {b2 : Nat} (h : Fam E w base t v rows) (hb : b2 ≤ base) : Fam E w b2 t v rows := ⟨fun k => (h.own k).mono hb, h.ne⟩
theorem Fam.congr {r2 : κ → List α} (h : Fam E w base t v rows) (e : ∀ k, rows k = r2 k) : Fam E w base t v r2 := ⟨fun k => e k ▸ h.own k, h.ne⟩
theorem Fam.kept (h : Fam E w base t v rows) {b : Nat} (hg : w.grownBy w' (some b)) (hb : ∀ k, (v k).ownBlock ≠ some b) : Fam E w' base t v rows :=
  ⟨fun k => World.ownsRow.kept (h.own k) hg (Or.inr (hb k)), h.ne⟩
theorem Fam.below (h : Fam E w base t v rows) (k : κ) (hg : w.grownBy w' (v k).ownBlock) (hb : base ≤ w.heap.size) : Below base w w' := (Below.refl base w).grown hg hb fun i hi => (World.ownsRow.lt (h.own k) i hi).1
theorem Fam.lt (h : Fam E w base t v rows) (k : κ) {g : Nat} (hg : (v k).ownBlock = some g) : base ≤ g ∧ g < w.heap.size := World.ownsRow.lt (h.own k) g hg
end
section
variable {κ α : Type} [DecidableEq κ] {E : En α} {w w' : World} {base : Nat} {t : TypeId} {v : κ → Value} {rows : κ → List α}
theorem Fam.grown (h : Fam E w base t v rows) (k : κ) {x : List α} {v' : Value} (ho : OwnE E w' base t v' x) (hg : w.grownBy w' (v k).ownBlock) (hat : ∀ g, v'.ownBlock = some g → (v k).ownBlock = some g ∨ g = w.heap.size) :
    Fam E w' base t (upd v k v') (upd rows k x) := by
  have hk : ∀ i, i ≠ k → ∀ g, v'.ownBlock = some g → (v i).ownBlock ≠ some g := fun i hi g h1 h2 => by
    rcases hat g h1 with h3 | h3
    · exact h.ne i k hi g h2 h3
    · have := (World.ownsRow.lt (h.own i) g h2).2; omega
  refine ⟨fun i => ?_, fun i j hij g h1 h2 => ?_⟩
  · by_cases e : i = k
    · subst e; rw [upd_at, upd_at]; exact ho
    · rw [upd_ne _ _ e, upd_ne _ _ e]
      refine World.ownsRow.kept (h.own i) hg ?_
      cases hv : (v i).ownBlock with
      | none => exact Or.inl rfl
      | some g => exact Or.inr fun e2 => h.ne i k e g hv e2.symm
  · by_cases e1 : i = k
    · subst e1
      rw [upd_at] at h1
      rw [upd_ne _ _ (Ne.symm hij)] at h2
      exact hk j (Ne.symm hij) g h1 h2
    · rw [upd_ne _ _ e1] at h1
      by_cases e2 : j = k
      · subst e2
        rw [upd_at] at h2
        exact hk i e1 g h2 h1
      · rw [upd_ne _ _ e2] at h2
        exact h.ne i j hij g h1 h2
end

section
variable {κ α : Type} [DecidableEq κ] {E : En α} {w : World} {base : Nat} {t : TypeId} {v : κ → Value} {rows : κ → List α} {ops : Array Oper} {rest : List Oper} {o : Oper} {a : Act} {Q : Exit → Act → World → Prop} {K : Act → World → Prop} {X : Prop}
/-- One more in the row of a key: a step of a region that draws. -/
theorem step_fam (key : κ) (hgd : o.guard = none) (p q : Operand) (T : TypeId) (z : Value) (by' : Nat)
    (ho : o.op = .call { callee := .builtin .append, args := #[p, q], argTypes := #[T, T] })
    (hT : Tryz.prog.underlying T = some (.slice t)) (hi : (Tryz.prog.info? t).map (fun i => (i.zero, i.size, i.bytes)) = some (some z, E.size, by')) (hz : z.cells.size = E.size)
    (h : Fam E w base t v rows) (hs : a.eval p = v key) (N : Nat) (x : α) (hx : a.eval q = .slice (some ⟨N, 0, none⟩) 1 1) (hR : RowE E w (some ⟨N, 0, none⟩) 1 [x])
    (hm : (rows key).length + 1 ≤ maxLen) (hlim : ((rows key).length + 1) * by' ≤ 140737488355328) (hbase : base ≤ w.heap.size)
    (k : ∀ v' w', Fam E w' base t (upd v key v') (upd rows key (rows key ++ [x])) → Below base w w' → w.grownBy w' (v key).ownBlock → K (a.put o.dst v') w') : if Region.wanted o (yielded ops a.tmps) = true then Oper.wp Tryz.prog o a w K Q else X := by
  obtain ⟨i, hi, hz0, hz1, hz2⟩ := info_parts hi
  refine step_append_lies w hgd p q T ho base t i z E.size by' hT hi hz0 hz1 hz2 hz E.pos (v key) (rows key).length _ hs (h.own key) ⟨N, 0, none⟩ 1 1 (E.cs x) hx (by rw [E.len, Nat.one_mul]) (news_one hR) (E.one x) (by omega) hm hlim hbase _ rfl fun g cap w' h2 h3 h4 h5 => k _ w' (h.grown key ?_ h3 fun g' hg' => ?_) (h.below key h3 hbase) h3
  · show w'.ownsRow base t E.size _ (rows key ++ [x]).length ((rows key ++ [x]).flatMap E.cs)
    rw [List.length_append, List.flatMap_append]
    simpa using h2
  · have : g = g' := by simpa [Value.ownBlock] using hg'
    subst this
    exact h4
end
/-- A cell of a block that no row of the family lies in. -/
theorem Fam.far {κ α : Type} {E : En α} {w w' : World} {base : Nat} {t : TypeId} {v : κ → Value} {rows : κ → List α} (h : Fam E w base t v rows) {k : κ} (hg : w.grownBy w' (v k).ownBlock) {b : Nat} (hb : b < w.heap.size) (hne : b < base) (i : Nat) :
    w'.cell? ⟨b, i, none⟩ = w.cell? ⟨b, i, none⟩ ∧ w'.frozen? ⟨b, i, none⟩ = w.frozen? ⟨b, i, none⟩ := by
  have hn : some b ≠ (v k).ownBlock := fun e => by have := (World.ownsRow.lt (h.own k) b e.symm).1; omega
  exact ⟨hg.cell_far ⟨b, i, none⟩ hb hn, hg.frozen_far ⟨b, i, none⟩ hb hn⟩
end Go.Proofs.YtahioajpmlochaaGreat.NumK
namespace Go.Proofs.YtahioajpmlochaaGreat.NumK
open Go.RowKit
set_option linter.unusedVariables false

def enInt : En Int := ⟨1, fun n => [.int .i64 n], fun _ => rfl, fun n v hv => by simp at hv; rw [hv]; rfl, by decide⟩
theorem info_int1 : (Tryz.prog.info? 3).map (fun i => (i.zero, i.size, i.bytes)) = some (some (.int .i64 0), 1, 8) := by kernel_rfl
theorem ints_of_E {w : World} {A : Option Addr} {n : Nat} {l : List Int} (h : RowE enInt w A n l) : Ints w A n l := by
  refine ⟨h.len, fun hn => ?_⟩
  obtain ⟨b, o, e, hb, hc⟩ := h.at hn
  refine ⟨b, o, e, hb, fun j hj => ?_⟩
  have hj2 : j < l.length := by rw [h.len]; exact hj
  have := hc j hj2 0 (by decide)
  rw [show o + j * enInt.size + 0 = o + j by show o + j * 1 + 0 = _; omega] at this
  rw [this]
  simp [enInt, List.getD, hj2]

end Go.Proofs.YtahioajpmlochaaGreat.NumK
namespace Go.Proofs.YtahioajpmlochaaGreat.NumK
open Go.RowKit

/-! ### numbers of 128 bits, by their halves -/
def hi64 (x : Int) : Int := x / 18446744073709551616
def lo64 (x : Int) : Int := x % 18446744073709551616
theorem w_eq (x : Int) : hi64 x * 18446744073709551616 + lo64 x = x := by unfold hi64 lo64; omega
theorem lo_bounds (x : Int) : 0 ≤ lo64 x ∧ lo64 x < 18446744073709551616 := by unfold lo64; omega
theorem w_unique (x h l : Int) (e : h * 18446744073709551616 + l = x) (h0 : 0 ≤ l) (h1 : l < 18446744073709551616) : hi64 x = h ∧ lo64 x = l := by unfold hi64 lo64; omega
def isWide (x : Int) : Bool := decide (-170141183460469231731687303715884105728 ≤ x) && decide (x < 170141183460469231731687303715884105728)
theorem isWide_iff (x : Int) : isWide x = true ↔ -170141183460469231731687303715884105728 ≤ x ∧ x < 170141183460469231731687303715884105728 := by simp [isWide]
theorem hi_bounds (x : Int) (h : isWide x = true) : -9223372036854775808 ≤ hi64 x ∧ hi64 x ≤ 9223372036854775807 := by
  rw [isWide_iff] at h; unfold hi64; omega

theorem ret_wv {x a b : Int} (h1 : a = hi64 x) (h2 : b = lo64 x) : Ending.returned (.agg #[.int .i64 a, .int .u64 b]) = .returned (.agg #[.int .i64 (hi64 (x)), .int .u64 (lo64 (x))]) := by rw [h1, h2]
theorem times_arith (a b : Int) (ha : -9223372036854775808 ≤ a ∧ a ≤ 9223372036854775807) (hb : -9223372036854775808 ≤ b ∧ b ≤ 9223372036854775807) :
    a.natAbs * b.natAbs ≤ 85070591730234615865843651857942052864 ∧ ((a < 0 ↔ b < 0) → a * b = (a.natAbs * b.natAbs : Nat)) ∧ ((a < 0 ↔ ¬ b < 0) → a * b = -(a.natAbs * b.natAbs : Nat)) := by
  have hp : ((a * b).natAbs) = a.natAbs * b.natAbs := Int.natAbs_mul a b
  have hs : (a < 0 ↔ b < 0) → 0 ≤ a * b := fun h => by
    by_cases c : a < 0
    · exact Int.mul_nonneg_of_nonpos_of_nonpos (by omega) (by omega)
    · exact Int.mul_nonneg (by omega) (by omega)
  have hn : (a < 0 ↔ ¬ b < 0) → a * b ≤ 0 := fun h => by
    by_cases c : a < 0
    · exact Int.mul_nonpos_of_nonpos_of_nonneg (by omega) (by omega)
    · exact Int.mul_nonpos_of_nonneg_of_nonpos (by omega) (by omega)
  have hm : a.natAbs * b.natAbs ≤ 9223372036854775808 * 9223372036854775808 := Nat.mul_le_mul (by omega) (by omega)
  generalize a.natAbs * b.natAbs = P at *
  generalize a * b = p at *
  exact ⟨by omega, fun h => by have := hs h; omega, fun h => by have := hn h; omega⟩
def intV (x : Int) : Int := if isMoney x then x else 0
theorem intV_in {x : Int} (h : isMoney x = true) : intV x = x := by simp [intV, h]
theorem intV_out {x : Int} (h : isMoney x = false) : intV x = 0 := by simp [intV, h]
theorem ret_vb {a a' : Int} {b b' : Bool} (h1 : a = a') (h2 : b = b') : Ending.returned (.tuple #[.int .i64 a, .bool b]) = .returned (.tuple #[.int .i64 a', .bool b']) := by rw [h1, h2]
theorem keep2 {w w1 w2 : World} {v0 v1 : Value} (g : Grew w1 w2) (h1 : w1.cell? ⟨w.heap.size, 0, none⟩ = some v0) (h2 : w1.cell? ⟨w.heap.size, 1, none⟩ = some v1) (h3 : w.heap.size < w1.heap.size) (h4 : Grew w w1) :
    w2.cell? ⟨w.heap.size, 0, none⟩ = some v0 ∧ w2.cell? ⟨w.heap.size, 1, none⟩ = some v1 ∧ w.heap.size < w2.heap.size ∧ Grew w w2 :=
  ⟨(grew_cell g (p := ⟨w.heap.size, 0, none⟩) h3).trans h1, (grew_cell g (p := ⟨w.heap.size, 1, none⟩) h3).trans h2, Nat.lt_of_lt_of_le h3 g.size, grew_trans h4 g⟩
theorem ret_wb {x a b : Int} {p q : Bool} (h1 : a = hi64 x) (h2 : b = lo64 x) (h3 : p = q) : Ending.returned (.tuple #[.agg #[.int .i64 a, .int .u64 b], .bool p]) = .returned (.tuple #[(.agg #[.int .i64 (hi64 (x)), .int .u64 (lo64 (x))]), .bool q]) := by rw [h1, h2, h3]
def wsV (x : Int) : Int := if isWide x then x else 0
end Go.Proofs.YtahioajpmlochaaGreat.NumK
namespace Go.Proofs.YtahioajpmlochaaGreat.NumK
open Go.RowKit

theorem refRight_any (n : Int) (w : World) :
    Calls Tryz.prog 23 #[.int .i64 n] w fun e w' => e = .returned (.bool (isMoney n)) ∧ w = w' := by
  by_cases h1 : -4611686018427387904 ≤ n
  · by_cases h2 : n ≤ 4611686018427387904
    · have H := Lib.hid ((isMoney_iff n).2 ⟨h1, h2⟩)
      go_enter Tryz.func23, Tryz.ntmps23
      go_wp2
      go_ret
      exact ⟨ret_b H.out.symm, rfl⟩
    · have hf : isMoney n = false := by rw [← Bool.not_eq_true, isMoney_iff]; omega
      have H := Lib.hid hf
      clear hf
      go_enter Tryz.func23, Tryz.ntmps23
      go_wp2
      go_ret
      exact ⟨ret_b H.out.symm, rfl⟩
  · have hf : isMoney n = false := by rw [← Bool.not_eq_true, isMoney_iff]; omega
    have H := Lib.hid hf
    clear hf
    go_enter Tryz.func23, Tryz.ntmps23
    go_wp2
    go_ret
    exact ⟨ret_b H.out.symm, rfl⟩

theorem of_any (n : Int) (w : World) (h : -9223372036854775808 ≤ n ∧ n ≤ 9223372036854775807) :
    Calls Tryz.prog 48 #[.int .i64 n] w fun e w' => e = .returned (.agg #[.int .i64 (hi64 (n)), .int .u64 (lo64 (n))]) ∧ Grew w w' := by
  by_cases c : n < 0
  · have H1 : Hid ((-1 : Int) = hi64 n) := by show (-1 : Int) = _; unfold hi64; omega
    have H2 : Hid (IntKind.u64.wrap n = lo64 n) := by show _ = _; rw [IntKind.wrap_u64]; rfl
    go_enter Tryz.func48, Tryz.ntmps48
    go_wp2
    exact bodyPost_ret (v := .agg #[.int .i64 (-1), .int .u64 (IntKind.u64.wrap n)]) (by simp [results, Tryz.results48, go_sem]) rfl ⟨ret_wv H1.out H2.out, grew_alloc _ _ _⟩
  · have H1 : Hid ((0 : Int) = hi64 n) := by show (0 : Int) = _; unfold hi64; omega
    have H2 : Hid (n = lo64 n) := by show _ = _; unfold lo64; omega
    go_enter Tryz.func48, Tryz.ntmps48
    go_wp2
    exact bodyPost_ret (v := .agg #[.int .i64 0, .int .u64 n]) (by simp [results, Tryz.results48, go_sem]) rfl ⟨ret_wv H1.out H2.out, grew_alloc _ _ _⟩
end Go.Proofs.YtahioajpmlochaaGreat.NumK
namespace Go.Proofs.YtahioajpmlochaaGreat.NumK
open Go.RowKit

/-! ### a slice of wides -/
def wcells (x : Int) : List Value := [.int .i64 (hi64 x), .int .u64 (lo64 x)]
def Wides (w : World) (A : Option Addr) (n : Nat) (xs : List Int) : Prop :=
  xs.length = n ∧ (0 < n → ∃ b o, A = some ⟨b, o, none⟩ ∧ b < w.heap.size ∧ ∀ j, j < n → w.cell? ⟨b, o + j * 2, none⟩ = some (.int .i64 (hi64 (xs.getD j 0))) ∧ w.cell? ⟨b, o + j * 2 + 1, none⟩ = some (.int .u64 (lo64 (xs.getD j 0))))

theorem sum_take_succ (xs : List Int) (k : Nat) (h : k < xs.length) : (xs.take (k + 1)).sum = (xs.take k).sum + xs.getD k 0 := by
  rw [List.take_succ_eq_append_getElem h, List.sum_append]
  simp [List.getD, List.getElem?_eq_getElem h]

theorem wcells_len (xs : List Int) : (xs.flatMap wcells).length = xs.length * 2 := by
  induction xs with
  | nil => rfl
  | cons x xs ih => rw [List.flatMap_cons, List.length_append, ih]; simp [wcells]; omega
theorem wcells_at (xs : List Int) (j : Nat) (h : j < xs.length) : (xs.flatMap wcells)[j * 2]? = some (.int .i64 (hi64 (xs.getD j 0))) ∧ (xs.flatMap wcells)[j * 2 + 1]? = some (.int .u64 (lo64 (xs.getD j 0))) := by
  induction xs generalizing j with
  | nil => simp at h
  | cons x xs ih =>
    cases j with
    | zero => simp [wcells, List.flatMap_cons]
    | succ j =>
      have := ih j (by simpa using h)
      rw [List.flatMap_cons, show (j + 1) * 2 = j * 2 + 1 + 1 from by omega]
      simpa [wcells] using this

theorem wides_of_own {w : World} {base : Nat} {e : TypeId} {v : Value} {n : Nat} {xs : List Int} (h : w.ownsRow base e 2 v n (xs.flatMap wcells)) :
    ∃ A c, v = .slice A n c ∧ Wides w A n xs := by
  obtain ⟨hl, h⟩ := h
  rw [wcells_len] at hl
  have hl : xs.length = n := by omega
  rcases h with ⟨rfl, rfl⟩ | ⟨g, cap, cur, rfl, _, hh, _, _, _, ht⟩
  · exact ⟨none, 0, rfl, ⟨hl, fun h => absurd h (by omega)⟩⟩
  · refine ⟨some ⟨g, 0, none⟩, cap, rfl, ⟨hl, fun hn => ⟨g, 0, rfl, ?_, fun j hj => ?_⟩⟩⟩
    · rcases Nat.lt_or_ge g w.heap.size with h1 | h1
      · exact h1
      · rw [Array.getElem?_eq_none h1] at hh; cases hh
    · obtain ⟨w1, w2⟩ := wcells_at xs j (by omega)
      rw [cell_of_row w g (0 + j * 2) cur e (0, 0) hh, cell_of_row w g (0 + j * 2 + 1) cur e (0, 0) hh, Nat.zero_add]
      rw [← ht, List.getElem?_take, if_pos (by omega)] at w1 w2
      rw [Array.getElem?_toList] at w1 w2
      exact ⟨w1, w2⟩

theorem own_keep {w w2 : World} {base : Nat} {e : TypeId} {size : Nat} {v : Value} {n : Nat} {xs : List Value} (h : w.ownsRow base e size v n xs) (g : Grew w w2) : w2.ownsRow base e size v n xs := by
  obtain ⟨hl, h⟩ := h
  refine ⟨hl, ?_⟩
  rcases h with h | ⟨b, cap, cur, hv, hb, hh, r⟩
  · exact Or.inl h
  · refine Or.inr ⟨b, cap, cur, hv, hb, ?_, r⟩
    rw [g.block b ?_]
    · exact hh
    · rcases Nat.lt_or_ge b w.heap.size with h1 | h1
      · exact h1
      · rw [Array.getElem?_eq_none h1] at hh; cases hh

theorem info_wide : (Tryz.prog.info? 84).map (fun i => (i.zero, i.size, i.bytes)) = some (some (.agg #[.int .i64 0, .int .u64 0]), 2, 16) := by kernel_rfl

section
variable {w : World} {ops : Array Oper} {rest : List Oper} {o : Oper} {a : Act} {Q : Exit → Act → World → Prop}
theorem wpList_append_wide (hgd : o.guard = none) (s x : Operand)
    (ho : o.op = .call { callee := .builtin .append, args := #[s, x], argTypes := #[86, 86] })
    (base : Nat) (v : Value) (n : Nat) (xs : List Int) (hs : a.eval s = v) (hown : w.ownsRow base 84 2 v n (xs.flatMap wcells))
    (b c : Nat) (z : Int) (hx : a.eval x = .slice (some ⟨b, 0, none⟩) 1 c) (h0 : w.cell? ⟨b, 0, none⟩ = some (.int .i64 (hi64 z))) (h1 : w.cell? ⟨b, 1, none⟩ = some (.int .u64 (lo64 z)))
    (h63 : n + 1 ≤ 1000000) (hbase : base ≤ w.heap.size)
    (h : ∀ v' w', w'.ownsRow base 84 2 v' (n + 1) ((xs ++ [z]).flatMap wcells) → Below base w w' → wpList Tryz.prog ops Q rest (a.put o.dst v') w') : wpList Tryz.prog ops Q (o :: rest) a w := by
  obtain ⟨i, hi, hz0, hz1, hz2⟩ := info_parts info_wide
  refine wpList_append_own w hgd s x 86 ho base 84 i _ 2 16 Tryz.underlying86 hi hz0 hz1 hz2 rfl (by decide) v n _ hs hown ⟨b, 0, none⟩ 1 c (wcells z) hx
      rfl (fun j u hu => ?_) (fun u hu => ?_) (by unfold maxLen; omega) (by omega) hbase (fun v' w' ho' hg _ => ?_)
  · match j, hu with
    | 0, hu => simp [wcells] at hu; subst hu; simpa [Addr.add] using h0
    | 1, hu => simp [wcells] at hu; subst hu; simpa [Addr.add] using h1
    | j + 2, hu => simp [wcells] at hu
  · simp [wcells] at hu
    rcases hu with rfl | rfl <;> rfl
  · refine h v' w' (by rw [List.flatMap_append]; simpa using ho') ((Below.refl base w).grown hg hbase fun k hk => ?_)
    rcases hown.2 with ⟨rfl, _⟩ | ⟨g, cap, cur, rfl, hg', _⟩
    · simp [Value.ownBlock] at hk
    · simp [Value.ownBlock] at hk; omega
end

theorem take_map_succ (zs : List Int) (k : Nat) (h : k < zs.length) : zs.take k ++ [zs.getD k 0] = zs.take (k + 1) := by
  rw [List.take_succ_eq_append_getElem h]
  simp [List.getD, List.getElem?_eq_getElem h]

theorem sum_wide (zs : List Int) (hb : ∀ z ∈ zs, -9223372036854775808 ≤ z ∧ z ≤ 9223372036854775807) (hn : zs.length ≤ 1000000) : isWide zs.sum = true := by
  have key : ∀ l : List Int, (∀ z ∈ l, -9223372036854775808 ≤ z ∧ z ≤ 9223372036854775807) → -(l.length * 9223372036854775808) ≤ l.sum ∧ l.sum ≤ l.length * 9223372036854775808 := by
    intro l
    induction l with
    | nil => intro _; simp
    | cons z l ih =>
      intro h
      have h1 := h z (by simp)
      have h2 := ih fun y hy => h y (by simp [hy])
      simp only [List.sum_cons, List.length_cons]
      omega
  have := key zs hb
  rw [isWide_iff]
  omega

end Go.Proofs.YtahioajpmlochaaGreat.NumK
namespace Go.Proofs.YtahioajpmlochaaGreat.NumK
open Go.RowKit

theorem add64 (x y c : Int) (hx : 0 ≤ x) (hy : 0 ≤ y) (hc0 : 0 ≤ c) (hc : c ≤ 1) (w : World) : (callFunc 79 #[.int .u64 x, .int .u64 y, .int .u64 c]).run Tryz.prog w =
    .ok (.value (.tuple #[.int .u64 ((x + y + c) % 18446744073709551616), .int .u64 ((x + y + c) / 18446744073709551616)])) w := by
  rw [run_callFunc_extern Tryz.func79 (by kernel_rfl) (by kernel_rfl) (by kernel_rfl) (e := add64Entry) (by kernel_rfl), run_add64 x y c hx hy hc0 hc]
  rfl
theorem add64_named (x y c s d : Int) (hx : 0 ≤ x) (hy : 0 ≤ y) (hc0 : 0 ≤ c) (hc : c ≤ 1) (hs : s = (x + y + c) % 18446744073709551616) (hd : d = (x + y + c) / 18446744073709551616) (w : World) :
    (callFunc 79 #[.int .u64 x, .int .u64 y, .int .u64 c]).run Tryz.prog w = .ok (.value (.tuple #[.int .u64 s, .int .u64 d])) w := by
  rw [hs, hd]; exact add64 x y c hx hy hc0 hc w
end Go.Proofs.YtahioajpmlochaaGreat.NumK
namespace Go.Proofs.YtahioajpmlochaaGreat.NumK
open Go.RowKit

set_option maxHeartbeats 400000 in
theorem right_any (A : Option Addr) (n c : Nat) (zs : List Int) (w : World) (hz : Ints w A n zs) (hn : n ≤ 9223372036854775807) :
    Calls Tryz.prog 34 #[.slice A n c] w fun e w' => e = .returned (.bool (zs.all isMoney)) ∧ w = w' := by
  have HZ : Hid (Ints w A n zs) := hz
  clear hz
  go_enter Tryz.func34, Tryz.ntmps34
  go_wp2
  go_loop [7] (fun i => ∃ k : Nat, k ≤ n ∧ i = .int .i64 k ∧ Hid ((zs.take k).all isMoney = true)) (fun i => n - (intOf i).toNat)
  case atStart => exact ⟨0, Nat.zero_le _, rfl, by simp [Hid]⟩
  case round =>
    obtain ⟨k, hk, rfl, HK⟩ := hrel
    by_cases hlt : k < n
    · obtain ⟨b, o, rfl, _, hc⟩ := HZ.out.2 (by omega)
      have hcell := hc k hlt
      have hl := HZ.out.1
      have hs := all_take_succ zs k (by omega)
      have HS : Hid ((zs.take (k + 1)).all isMoney = isMoney (zs.getD k 0)) := by rw [hs, HK.out]; simp [Hid]
      clear hs hc hl
      generalize hy : zs.getD k 0 = y at *
      have HY : Hid (zs.getD k 0 = y) := hy
      clear hy
      by_cases h1 : y < -4611686018427387904
      · go_wp2
        go_ret
        exact ⟨ret_b (all_false zs k (by have := HZ.out.1; omega) y HY.out (by omega)), rfl⟩
      · by_cases h2 : 4611686018427387904 < y
        · go_wp2
          go_ret
          exact ⟨ret_b (all_false zs k (by have := HZ.out.1; omega) y HY.out (by omega)), rfl⟩
        · go_wp2
          go_round
          case rel => exact ⟨k + 1, by omega, by go_num, HS.out.trans ((isMoney_iff y).2 ⟨by omega, by omega⟩)⟩
          case measure => simp [intOf]; omega
    · have : k = n := by omega
      subst this
      go_wp2
      go_ret
      have h1 := HK.out
      rw [List.take_of_length_le (by have := HZ.out.1; omega)] at h1
      exact ⟨ret_b h1.symm, rfl⟩

end Go.Proofs.YtahioajpmlochaaGreat.NumK
namespace Go.Proofs.YtahioajpmlochaaGreat.NumK
open Go.RowKit

theorem money_any (n : Int) (w : World) :
    Calls Tryz.prog 35 #[.int .i64 n] w fun e w' => e = .returned (.tuple #[.int .i64 (capV n), .int .i64 (capE n)]) ∧ Grew w w' := by
  by_cases h : isMoney n = true
  · have hr : [n].all isMoney = true := by simp [h]
    have H := Lib.hid h
    have C := (right_any (some ⟨w.heap.size, 0, none⟩) 1 1 [n] _ (ints1 w n 3) (by omega))
    rw [hr] at C
    clear hr h
    go_enter Tryz.func35, Tryz.ntmps35
    go_wp2_with (go_at_call 34; refine C.mono ?_; rintro e w' ⟨rfl, rfl⟩)
    go_ret2
    exact ⟨ret2 (capV_in H.out).symm (capE_in H.out).symm, grew_alloc _ _ _⟩
  · simp only [Bool.not_eq_true] at h
    have hr : [n].all isMoney = false := by simp [h]
    have H := Lib.hid h
    have C := (right_any (some ⟨w.heap.size, 0, none⟩) 1 1 [n] _ (ints1 w n 3) (by omega))
    rw [hr] at C
    clear hr h
    go_enter Tryz.func35, Tryz.ntmps35
    go_wp2_with (go_at_call 34; refine C.mono ?_; rintro e w' ⟨rfl, rfl⟩)
    go_ret2
    exact ⟨ret2 (capV_out H.out).symm (capE_out H.out).symm, grew_alloc _ _ _⟩

/-! ### Sum -/
def up (zs : List Int) : Int := (zs.map (· / 2147483648)).sum
def lo (zs : List Int) : Int := (zs.map (· % 2147483648)).sum

theorem up_succ (zs : List Int) (k : Nat) (h : k < zs.length) : up (zs.take (k + 1)) = up (zs.take k) + zs.getD k 0 / 2147483648 := by
  unfold up
  rw [List.take_succ_eq_append_getElem h, List.map_append, List.sum_append]
  simp [List.getD, List.getElem?_eq_getElem h]
theorem lo_succ (zs : List Int) (k : Nat) (h : k < zs.length) : lo (zs.take (k + 1)) = lo (zs.take k) + zs.getD k 0 % 2147483648 := by
  unfold lo
  rw [List.take_succ_eq_append_getElem h, List.map_append, List.sum_append]
  simp [List.getD, List.getElem?_eq_getElem h]
theorem up_lo (zs : List Int) : up zs * 2147483648 + lo zs = zs.sum := by
  induction zs with
  | nil => rfl
  | cons z zs ih => simp only [up, lo, List.map_cons, List.sum_cons] at *; omega
theorem lo_bd (zs : List Int) : 0 ≤ lo zs ∧ lo zs ≤ zs.length * 2147483648 := by
  induction zs with
  | nil => simp [lo]
  | cons z zs ih => simp only [lo, List.map_cons, List.sum_cons, List.length_cons] at *; omega
theorem up_bd (zs : List Int) (h : zs.all isMoney = true) : -(zs.length * 2147483648) ≤ up zs ∧ up zs ≤ zs.length * 2147483648 := by
  induction zs with
  | nil => simp [up]
  | cons z zs ih =>
    simp only [List.all_cons, Bool.and_eq_true, isMoney_iff] at h
    have := ih h.2
    simp only [up, List.map_cons, List.sum_cons, List.length_cons] at *; omega

def sumV (zs : List Int) : Int := if zs.all isMoney then capV zs.sum else 0
def sumE (zs : List Int) : Int := if zs.all isMoney then capE zs.sum else 3
theorem sumV_in {zs : List Int} (h : zs.all isMoney = true) : sumV zs = capV zs.sum := by simp only [sumV, h, if_true]
theorem sumE_in {zs : List Int} (h : zs.all isMoney = true) : sumE zs = capE zs.sum := by simp only [sumE, h, if_true]
theorem sumV_out {zs : List Int} (h : zs.all isMoney = false) : sumV zs = 0 := by simp [sumV, h]
theorem sumE_out {zs : List Int} (h : zs.all isMoney = false) : sumE zs = 3 := by simp [sumE, h]

theorem sum_wrong (A : Option Addr) (n c : Nat) (zs : List Int) (w : World) (hz : Ints w A n zs) (hn : n ≤ 9223372036854775807) (h : zs.all isMoney = false) :
    Calls Tryz.prog 17 #[.slice A n c] w fun e w' => e = .returned (.tuple #[.int .i64 (sumV zs), .int .i64 (sumE zs)]) ∧ Grew w w' := by
  have C := right_any A n c zs w hz hn
  rw [h] at C
  have H := Lib.hid h
  clear h hz
  go_enter Tryz.func17, Tryz.ntmps17
  go_wp2_with (go_at_call 34; refine C.mono ?_; rintro e w' ⟨rfl, rfl⟩)
  go_ret2
  exact ⟨ret2 (sumV_out H.out).symm (sumE_out H.out).symm, grew_refl _⟩

set_option maxHeartbeats 1000000 in
theorem sum_right (A : Option Addr) (n c : Nat) (zs : List Int) (w : World) (hz : Ints w A n zs) (hn : n ≤ 1000000) (h : zs.all isMoney = true) :
    Calls Tryz.prog 17 #[.slice A n c] w fun e w' => e = .returned (.tuple #[.int .i64 (sumV zs), .int .i64 (sumE zs)]) ∧ Grew w w' := by
  have C := right_any A n c zs w hz (by omega)
  rw [h] at C
  have H := Lib.hid h
  have HZ : Hid (Ints w A n zs) := hz
  clear h hz
  go_enter Tryz.func17, Tryz.ntmps17
  go_wp2_with (go_at_call 34; refine C.mono ?_; rintro e w' ⟨rfl, rfl⟩)
  go_loop [4, 5, 13] (fun u l i => ∃ k : Nat, k ≤ n ∧ i = .int .i64 k ∧ u = .int .i64 (up (zs.take k)) ∧ l = .int .i64 (lo (zs.take k))) (fun _ _ i => n - (intOf i).toNat)
  case atStart => exact ⟨0, Nat.zero_le _, rfl, rfl, rfl⟩
  case round =>
    obtain ⟨k, hk, rfl, rfl, rfl⟩ := hrel
    have hlen := HZ.out.1
    have b1 := up_bd (zs.take k) (by rw [List.all_eq_true]; intro x hx; exact (List.all_eq_true.1 H.out) x (List.mem_of_mem_take hx))
    have b2 := lo_bd (zs.take k)
    have hlk : (zs.take k).length = k := by simp; omega
    rw [hlk] at b1 b2
    by_cases hlt : k < n
    · obtain ⟨b, o, rfl, _, hc⟩ := HZ.out.2 (by omega)
      have hcell := hc k hlt
      have hu := up_succ zs k (by omega)
      have hl := lo_succ zs k (by omega)
      have hm : isMoney (zs.getD k 0) = true := (List.all_eq_true.1 H.out) _ (by rw [List.getD_eq_getElem?_getD, List.getElem?_eq_getElem (by omega)]; exact List.getElem_mem _)
      rw [isMoney_iff] at hm
      obtain ⟨hm1, hm2⟩ := hm
      obtain ⟨b3, b4⟩ := b1
      obtain ⟨b5, b6⟩ := b2
      generalize zs.getD k 0 = y at *
      generalize up (zs.take k) = U at *
      generalize lo (zs.take k) = L at *
      have HU := Lib.hid hu
      have HL := Lib.hid hl
      have k31 := mask31 y
      clear hu hl hc hlen hlk
      go_wp2
      go_round
      case rel => exact ⟨k + 1, by omega, by go_num, by rw [HU.out], by rw [HL.out]⟩
      case measure => simp [intOf]; omega
    · have : k = n := by omega
      subst this
      have ht : zs.take k = zs := List.take_of_length_le (by omega)
      rw [ht] at b1 b2 ⊢
      have hs := up_lo zs
      have HS : Hid (zs.sum = (up zs + lo zs / 2147483648) * 2147483648 + lo zs % 2147483648) := by show zs.sum = _; omega
      clear hs ht hlk hlen hlt
      have e1 : sumV zs = capV zs.sum := sumV_in H.out
      have e2 : sumE zs = capE zs.sum := sumE_in H.out
      have E1 := Lib.hid e1
      have E2 := Lib.hid e2
      clear e1 e2
      generalize up zs = U at *
      generalize lo zs = L at *
      obtain ⟨b3, b4⟩ := b1
      obtain ⟨b5, b6⟩ := b2
      have m31 := mask31 L
      have q0 : 0 ≤ L / 2147483648 := by omega
      have q1 : L / 2147483648 ≤ 1000000 := by omega
      have r0 : 0 ≤ L % 2147483648 := by omega
      have r1 : L % 2147483648 < 2147483648 := by omega
      by_cases c1 : U + L / 2147483648 < -2147483648
      · have hf : isMoney zs.sum = false := by rw [← Bool.not_eq_true, isMoney_iff]; have := HS.out; omega
        have HF := Lib.hid hf
        clear hf
        go_wp2
        go_ret2
        exact ⟨ret2 (E1.out.trans (capV_out HF.out)).symm (E2.out.trans (capE_out HF.out)).symm, grew_refl _⟩
      · by_cases c2 : 2147483648 < U + L / 2147483648
        · have hf : isMoney zs.sum = false := by rw [← Bool.not_eq_true, isMoney_iff]; have := HS.out; omega
          have HF := Lib.hid hf
          clear hf
          go_wp2
          go_ret2
          exact ⟨ret2 (E1.out.trans (capV_out HF.out)).symm (E2.out.trans (capE_out HF.out)).symm, grew_refl _⟩
        · go_wp2_with (go_at_call 35; refine (money_any _ _).mono ?_; rintro e w' ⟨rfl, hg⟩)
          go_ret2
          have hs := HS.out
          exact ⟨ret2 (by rw [E1.out, hs]) (by rw [E2.out, hs]), hg⟩

theorem sum_any (A : Option Addr) (n c : Nat) (zs : List Int) (w : World) (hz : Ints w A n zs) (hn : n ≤ 1000000) :
    Calls Tryz.prog 17 #[.slice A n c] w fun e w' => e = .returned (.tuple #[.int .i64 (sumV zs), .int .i64 (sumE zs)]) ∧ Grew w w' := by
  by_cases h : zs.all isMoney = true
  · exact sum_right A n c zs w hz hn h
  · exact sum_wrong A n c zs w hz (by omega) (by simpa using h)

end Go.Proofs.YtahioajpmlochaaGreat.NumK
namespace Go.Proofs.YtahioajpmlochaaGreat.NumK
open Go.RowKit
set_option linter.unusedVariables false

theorem own_form {α : Type} {E : En α} {w : World} {base : Nat} {t : TypeId} {A : Option Addr} {n c : Nat} {l : List α} (h : OwnE E w base t (.slice A n c) l) : RowE E w A l.length l ∧ (A = none → c = 0) ∧ l.length ≤ c ∧ c ≤ 9223372036854775807 := by
  obtain ⟨A', c', e, hr, hn, h1, h2⟩ := h.form
  cases e
  exact ⟨hr, hn, h1, by unfold maxLen at h2; omega⟩
theorem OwnE.block {α : Type} {E : En α} {w : World} {base : Nat} {t : TypeId} {A : Option Addr} {n c : Nat} {l : List α} (h : OwnE E w base t (.slice A n c) l) : ∀ x, A = some x → base ≤ x.block ∧ x.block < w.heap.size := by
  intro x hx
  subst hx
  exact World.ownsRow.lt h x.block rfl
/-- Not in one block. -/
def Apart (A B : Option Addr) : Prop := ∀ x y, A = some x → B = some y → x.block ≠ y.block
theorem apart_of {A B : Option Addr} {m p q n : Nat} (h1 : ∀ x, A = some x → m ≤ x.block ∧ x.block < p) (h2 : ∀ x, B = some x → q ≤ x.block ∧ x.block < n) (h : p ≤ q) : Apart A B := fun x y hx hy => by
  have := h1 x hx; have := h2 y hy; omega
end Go.Proofs.YtahioajpmlochaaGreat.NumK
namespace Go.Proofs.YtahioajpmlochaaGreat.NumK
open Go.RowKit
set_option linter.unusedVariables false

/-- Each position is at most N. -/
def GS (l : List Po) (N : Int) : Prop := ∀ j, wm (qK l j) N
theorem GS.zero : GS [] 0 := fun j => ⟨Int.le_refl _, Int.le_refl _⟩
theorem GS.mono {l : List Po} {N M : Int} (h : GS l N) (hm : N ≤ M) : GS l M := fun j => by have := h j; unfold wm at *; omega
theorem GS.add {l legs : List Po} {N M : Int} (h : GS l N) (h2 : GS legs M) : GS (plA (addF l legs)) (N + M) := by
  intro j
  have a1 := h j
  have a2 := h2 j
  by_cases hj : okK j = true
  · rw [(sum_add l legs j hj).1]; unfold wm at *; omega
  · have h3 := sum_of_not (l := plA (addF l legs)) (k := j) fun x hx he => hj (by rw [← he]; exact ((mem_pl _ x).1 hx).1)
    unfold sumK2 at h3
    simp only [Prod.mk.injEq] at h3
    rw [h3.1]
    unfold wm at *; omega
theorem GS.legs {t : Tr} (h : numsT t = true) (back : Bool) : GS (legsT t back) 1048576 := fun j => (qK_small h back j).1
theorem GS.enter {b : Bk} {t : Tr} {N : Int} (h : GS b.2.2 N) (he : enterE b t = 0) : GS (enterB b t).2.2 (N + 1048576) := by
  rw [enterB_ok he]
  exact h.add (GS.legs (enterE_ok.1 he).2.1 false)
theorem GS.cancel {b : Bk} {no : Int} {N : Int} (h : GS b.2.2 N) (he : cancelE b no = 0) : GS (cancelB b no).2.2 (N + 1048576) := by
  have h1 := cancelE_ok.1 he
  rw [cancelB_ok he]
  have h2 := (the_live h1.2.1).1
  have h3 := ((rightB_iff b).1 h1.1).2.1.1.1 _ h2
  have h4 : numsT (theT b.2.1 no) = true := by unfold okTr at h3; simp only [Bool.and_eq_true] at h3; exact h3.1
  exact h.add (GS.legs h4 true)
theorem GS.corr {b : Bk} {no q p : Int} {N : Int} (h : GS b.2.2 N) (he : corrE b no q p = 0) : GS (corrB b no q p).2.2 (N + 2097152) := by
  unfold corrE at he
  unfold corrB
  by_cases h1 : cancelE b no = 0
  · rw [if_pos h1] at he ⊢
    exact ((h.cancel h1).enter he).mono (by omega)
  · rw [if_neg h1] at he
    exact absurd he h1

theorem mul_small (p c P : Int) (h0 : 0 ≤ p) (h1 : p ≤ P) (h2 : 0 ≤ c) (h3 : c ≤ 1073741824) : 0 ≤ p * c ∧ p * c ≤ P * 1073741824 := by
  refine ⟨Int.mul_nonneg h0 h2, ?_⟩
  calc p * c ≤ P * c := Int.mul_le_mul_of_nonneg_right h1 h2
    _ ≤ P * 1073741824 := Int.mul_le_mul_of_nonneg_left h3 (by omega)
theorem legsF_ok {k : Ky} (hk : okK k = true) {s : Int} (hs : s = 1 ∨ s = -1) {fs : List Fi} (h : ∀ f ∈ fs, (okK (f.1, k.2) = true) ∧ 0 ≤ f.2.1 ∧ f.2.1 ≤ 1073741824 ∧ 0 ≤ f.2.2 ∧ f.2.2 ≤ 1073741824) : (legsF k s fs).all okLeg = true := by
  rw [List.all_eq_true]
  intro x hx
  unfold legsF at hx
  obtain ⟨f, hf, hx⟩ := List.mem_flatMap.1 hx
  have h1 := h f hf
  have h2 := mul_small f.2.1 f.2.2 1073741824 h1.2.1 h1.2.2.1 h1.2.2.2.1 h1.2.2.2.2
  unfold okLeg okAm
  simp only [List.mem_cons, List.not_mem_nil, or_false] at hx
  simp only [Bool.and_eq_true, isMoney_iff]
  generalize f.2.1 * f.2.2 = P at *
  rcases hx with rfl | rfl
  · refine ⟨h1.1, ?_, ?_⟩
    · dsimp only; rcases hs with rfl | rfl <;> omega
    · dsimp only; rcases hs with rfl | rfl <;> omega
  · refine ⟨hk, ?_, ?_⟩
    · dsimp only; rcases hs with rfl | rfl <;> omega
    · dsimp only; rcases hs with rfl | rfl <;> omega
/-- What is torn up of a right book may be added, or a cost gets too great. -/
theorem torn_add {b : Bk} (h : rightB b = true) {x : Po} (hx : x ∈ b.2.2) {s : Int} (hs : s = 1 ∨ s = -1) {fs : List Fi} (hf : ∀ f ∈ fs, (okK (f.1, x.2.1) = true) ∧ 0 ≤ f.2.1 ∧ f.2.1 ≤ 1073741824 ∧ 0 ≤ f.2.2 ∧ f.2.2 ≤ 1073741824) :
    addE b (legsF (keyP x) s fs) = 0 ∨ addE b (legsF (keyP x) s fs) = 1 := by
  have hp := ((rightB_iff b).1 h).2.2
  unfold addE
  rw [if_pos h, if_pos (legsF_ok (right_keys hp x hx) hs hf), if_pos (flat_legsF _ _ _)]
  split
  · exact Or.inl rfl
  · exact Or.inr rfl
end Go.Proofs.YtahioajpmlochaaGreat.NumK
namespace Go.Proofs.YtahioajpmlochaaGreat.NumK

/-- What one part is held against. -/
theorem pt_all {T : Int} {l : List Int} {s t : Nat → Nat} (h0 : ∀ x ∈ l, 0 ≤ x) (hS : 0 < l.sum) (P : Pl (rs T l) l.length s t) {k : Nat} (hk : k < l.length) :
    (wt l k = 0 → pt T l t k = 0) ∧ (T ≤ l.sum → pt T l t k ≤ wt l k) ∧ (pt T l t k - 1) * l.sum < T * wt l k ∧ T * wt l k < (pt T l t k + 1) * l.sum := by
  have e := qr T l k
  obtain ⟨r0, r1⟩ := rs_bd T l k hS
  have hm : (t k : Int) < lf T l → 0 < rs T l k := more_pos hS P k hk
  have hq0 : wt l k = 0 → qs T l k = 0 ∧ rs T l k = 0 := fun h => by unfold qs rs; rw [h]; simp
  have hqy : T ≤ l.sum → T * wt l k ≤ l.sum * wt l k := fun h => Int.mul_le_mul_of_nonneg_right h (wt_nonneg h0 k)
  have hlt : ∀ q y : Int, q * l.sum < l.sum * y → q < y := fun q y h => by rw [Int.mul_comm q] at h; exact Int.lt_of_mul_lt_mul_left h (by omega)
  have hle : ∀ q y : Int, q * l.sum ≤ l.sum * y → q ≤ y := fun q y h => by rw [Int.mul_comm q] at h; exact Int.le_of_mul_le_mul_left h hS
  have h1 := hlt (qs T l k) (wt l k)
  have h2 := hle (qs T l k) (wt l k)
  unfold pt
  generalize qs T l k = q at *
  generalize rs T l k = r at *
  generalize wt l k = y at *
  generalize T * y = Ty at *
  generalize l.sum * y = Sy at *
  by_cases c : (t k : Int) < lf T l
  · rw [if_pos c]
    have hr := hm c
    refine ⟨fun h => ?_, fun h => ?_, ?_, ?_⟩
    · have := hq0 h; omega
    · have := hqy h; have := h1 (by omega); omega
    · rw [show q + 1 - 1 = q from by omega]; omega
    · rw [Int.add_mul, Int.add_mul]; omega
  · rw [if_neg c]
    refine ⟨fun h => ?_, fun h => ?_, ?_, ?_⟩
    · have := hq0 h; omega
    · have := hqy h; have := h2 (by omega); omega
    · rw [Int.add_zero, Int.sub_mul]; omega
    · rw [Int.add_zero, Int.add_mul]; omega
end Go.Proofs.YtahioajpmlochaaGreat.NumK
namespace Go.Proofs.YtahioajpmlochaaGreat.NumK
open Go.RowKit
set_option linter.unusedVariables false

theorem oth_w_at (l : List Po) (n q : Int) (i : Nat) (h : i < (othP l n q).length) : (othW l n q).getD i 0 = absA ((othP l n q).getD i po0).2.2.1 := by
  unfold othW
  rw [getD_at _ po0 i h, getD_at _ 0 i (by rw [List.length_map]; exact h), List.getElem_map]
theorem oth_w_nonneg (l : List Po) (n q : Int) : ∀ x ∈ othW l n q, 0 ≤ x := by
  intro x hx
  unfold othW at hx
  obtain ⟨p, _, rfl⟩ := List.mem_map.1 hx
  unfold absA; omega
/-- The parts: a split of m by what those on the other side have. -/
theorem borne_of {l : List Po} {n q m : Int} {s t : Nat → Nat} (hm : 0 ≤ m) (hs : m ≤ (othW l n q).sum) (P : Pl (rs m (othW l n q)) (othW l n q).length s t) :
    Borne (othP l n q) ((List.range (othW l n q).length).map (pt m (othW l n q) t)) m := by
  have hl : (othW l n q).length = (othP l n q).length := by unfold othW; rw [List.length_map]
  have h0 := oth_w_nonneg l n q
  have hz : (othW l n q).sum = 0 → m = 0 := fun h => by omega
  refine ⟨by rw [List.length_map, List.length_range, hl], fun i hi => ?_, ?_⟩
  · have hi2 : i < (othW l n q).length := by omega
    have e : ((List.range (othW l n q).length).map (pt m (othW l n q) t)).getD i 0 = pt m (othW l n q) t i := by
      rw [getD_at _ 0 i (by simpa using hi2), List.getElem_map, List.getElem_range]
    rw [e, ← oth_w_at l n q i hi]
    rcases Int.lt_or_le 0 (othW l n q).sum with hS | hS
    · have h1 := (pt_all h0 hS P hi2).2.1 hs
      have h2 : 0 ≤ pt m (othW l n q) t i := by
        have := qs_nonneg hm h0 i
        unfold pt; split <;> omega
      exact ⟨h2, h1⟩
    · have hS0 : (othW l n q).sum = 0 := by have := sum_nonneg h0; omega
      have hw := sum_zero h0 hS0 i
      have hm0 := hz hS0
      have hq : qs m (othW l n q) i = 0 := by unfold qs; rw [hm0]; simp
      have hlf : lf m (othW l n q) = 0 := by
        unfold lf
        have : sm (qs m (othW l n q)) (othW l n q).length = 0 := by
          rw [sm_congr (h := fun _ => 0) (fun k _ => by unfold qs; rw [hm0]; simp), sm_zero]
        rw [this, hm0]; rfl
      have hpt : pt m (othW l n q) t i = 0 := by unfold pt; rw [hq, hlf, if_neg (by omega)]; rfl
      rw [hpt]
      show 0 ≤ (0 : Int) ∧ 0 ≤ wt (othW l n q) i
      rw [hw]; omega
  · have h1 := pt_sum h0 hz P
    have h2 := sm_list ((List.range (othW l n q).length).map (pt m (othW l n q) t)) (othW l n q).length (by simp)
    rw [← h2]
    refine Eq.trans ?_ h1
    refine sm_congr fun k hk => ?_
    rw [getD_at _ 0 k (by simpa using hk), List.getElem_map, List.getElem_range]
end Go.Proofs.YtahioajpmlochaaGreat.NumK
namespace Go.Proofs.YtahioajpmlochaaGreat.NumK
open Go.RowKit

theorem maskN (a : Nat) (ha : a < 18446744073709551616) : bits .and .u64 (a : Int) 4294967295 = ((a % 4294967296 : Nat) : Int) := by
  have h := bits_and_u64_nat a 4294967295 ha (by omega)
  have e : a &&& 4294967295 = a % 4294967296 := Nat.and_two_pow_sub_one_eq_mod a 32
  rw [e] at h
  exact h
theorem divN (a : Nat) : (a : Int) / 4294967296 = ((a / 4294967296 : Nat) : Int) := by omega
theorem mulN (a b : Nat) : (a : Int) * (b : Int) = ((a * b : Nat) : Int) := (Int.natCast_mul a b).symm
theorem addN (a b : Nat) : (a : Int) + (b : Int) = ((a + b : Nat) : Int) := (Int.natCast_add a b).symm
theorem wrapN (a : Nat) (ha : a < 18446744073709551616) : IntKind.u64.wrap (a : Int) = (a : Int) := by rw [IntKind.wrap_u64]; omega
theorem wrapM (a : Nat) : IntKind.u64.wrap (a : Int) = ((a % 18446744073709551616 : Nat) : Int) := by rw [IntKind.wrap_u64]; omega

set_option maxHeartbeats 1000000 in
theorem mul64_any (x y : Nat) (hx : x < 18446744073709551616) (hy : y < 18446744073709551616) (w : World) :
    Calls Tryz.prog 43 #[.int .u64 x, .int .u64 y] w fun e w' => e = .returned (.tuple #[.int .u64 ((x * y / 18446744073709551616 : Nat) : Int), .int .u64 ((x * y % 18446744073709551616 : Nat) : Int)]) ∧ w = w' := by
  obtain ⟨bd, bt, bw, hhi⟩ := Lib.mul64_hi x y hx hy
  have ba := Lib.half_mul_le (a := x / 4294967296) (b := y / 4294967296) (by omega) (by omega)
  have bb := Lib.half_mul_le (a := x / 4294967296) (b := y % 4294967296) (by omega) (by omega)
  have bc := Lib.half_mul_le (a := x % 4294967296) (b := y / 4294967296) (by omega) (by omega)
  have ba' : x / 4294967296 * (y / 4294967296) < 18446744073709551616 := by omega
  have bb' : x / 4294967296 * (y % 4294967296) < 18446744073709551616 := by omega
  have bc' : x % 4294967296 * (y / 4294967296) < 18446744073709551616 := by omega
  have bh1 : x / 4294967296 * (y / 4294967296) + (x / 4294967296 * (y % 4294967296) + x % 4294967296 * (y % 4294967296) / 4294967296) / 4294967296 < 18446744073709551616 := by omega
  have bh : x / 4294967296 * (y / 4294967296) + (x / 4294967296 * (y % 4294967296) + x % 4294967296 * (y % 4294967296) / 4294967296) / 4294967296 + ((x / 4294967296 * (y % 4294967296) + x % 4294967296 * (y % 4294967296) / 4294967296) % 4294967296 + x % 4294967296 * (y / 4294967296)) / 4294967296 < 18446744073709551616 := by omega
  go_enter Tryz.func43, Tryz.ntmps43
  go_wp2
  simp only [maskN x hx, maskN y hy, divN, mulN, addN, wrapN _ bd, wrapN _ bb', wrapN _ bt, maskN _ bt, wrapN _ bc', wrapN _ bw, wrapN _ ba', wrapN _ bh1, wrapN _ bh, wrapM (x * y)]
  rw [hhi]
  go_ret2
  exact ⟨rfl, rfl⟩

end Go.Proofs.YtahioajpmlochaaGreat.NumK
namespace Go.Proofs.YtahioajpmlochaaGreat.NumK
open Go.RowKit

def sgn (n : Int) : Int := if n < 0 then -1 else 0
theorem sgn_neg {n : Int} (h : n < 0) : sgn n = -1 := by simp [sgn, h]
theorem sgn_pos {n : Int} (h : ¬ n < 0) : sgn n = 0 := by simp [sgn, h]

theorem sign_any (n : Int) (w : World) (h : -9223372036854775808 ≤ n ∧ n ≤ 9223372036854775807) :
    Calls Tryz.prog 89 #[.int .i64 n] w fun e w' => e = .returned (.int .i64 (sgn n)) ∧ w = w' := by
  go_enter Tryz.func89, Tryz.ntmps89
  go_wp2
  go_ret
  exact ⟨ret_i (by unfold sgn; split <;> omega), rfl⟩

theorem hi_of (n : Int) (h : -9223372036854775808 ≤ n ∧ n ≤ 9223372036854775807) : sgn n = hi64 n := by unfold sgn hi64; split <;> omega
theorem lo_of (n : Int) : IntKind.u64.wrap n = lo64 n := by rw [IntKind.wrap_u64]; rfl

theorem wof_any (n : Int) (w : World) (h : -9223372036854775808 ≤ n ∧ n ≤ 9223372036854775807) :
    Calls Tryz.prog 64 #[.int .i64 n] w fun e w' => e = .returned (.agg #[.int .i64 (hi64 n), .int .u64 (lo64 n)]) ∧ Grew w w' := by
  have C := fun w => sign_any n w h
  have e1 := lo_of n
  rw [hi_of n h] at C
  generalize hi64 n = hh at *
  generalize lo64 n = l at *
  go_enter Tryz.func64, Tryz.ntmps64
  go_wp2_with (go_at_call 89; ((with_reducible refine (C _).mono ?_); rintro e w' ⟨rfl, rfl⟩))
  exact bodyPost_ret (v := .agg #[.int .i64 hh, .int .u64 l]) (by simp [results, Tryz.results64, go_sem]) rfl ⟨rfl, grew_alloc _ _ _⟩

theorem wide_lt (x y : Int) : x < y ↔ hi64 x < hi64 y ∨ (hi64 x = hi64 y ∧ lo64 x < lo64 y) := by
  have h1 := w_eq x
  have h2 := w_eq y
  obtain ⟨h3, h4⟩ := lo_bounds x
  obtain ⟨h5, h6⟩ := lo_bounds y
  generalize hi64 x = a at *
  generalize hi64 y = b at *
  generalize lo64 x = c at *
  generalize lo64 y = d at *
  subst h1 h2
  constructor
  · intro h
    rcases Int.lt_trichotomy a b with h7 | h7 | h7
    · exact Or.inl h7
    · exact Or.inr ⟨h7, by omega⟩
    · omega
  · rintro (h | ⟨h, h7⟩) <;> omega
theorem wless_any (x y : Int) (w : World) :
    Calls Tryz.prog 71 #[.agg #[.int .i64 (hi64 x), .int .u64 (lo64 x)], .agg #[.int .i64 (hi64 y), .int .u64 (lo64 y)]] w fun e w' => e = .returned (.bool (decide (x < y))) ∧ Grew w w' := by
  have E : decide (x < y) = decide (hi64 x < hi64 y ∨ (hi64 x = hi64 y ∧ lo64 x < lo64 y)) := decide_eq_decide.2 (wide_lt x y)
  rw [E]
  clear E
  generalize hi64 x = a at *
  generalize hi64 y = b at *
  generalize lo64 x = c at *
  generalize lo64 y = d at *
  by_cases h : a = b
  · subst h
    have e : decide (a < a ∨ (a = a ∧ c < d)) = decide (c < d) := decide_eq_decide.2 (by omega)
    rw [e]
    clear e
    go_enter Tryz.func71, Tryz.ntmps71
    go_wp2
    go_ret
    exact ⟨rfl, grew_trans (grew_alloc _ _ _) (grew_alloc _ _ _)⟩
  · have d1 : (a != b) = true := by simpa using h
    have E : Hid (decide (a < b) = decide (a < b ∨ (a = b ∧ c < d))) := decide_eq_decide.2 (by omega)
    clear h
    go_enter Tryz.func71, Tryz.ntmps71
    go_wp2
    go_ret
    exact ⟨ret_b E.out, grew_trans (grew_alloc _ _ _) (grew_alloc _ _ _)⟩

end Go.Proofs.YtahioajpmlochaaGreat.NumK
