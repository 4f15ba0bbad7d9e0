/- Dividing by weights: places, remainders, sums: plain numbers. -/
import Derived.Test.YtkkemmfghjgmeaaSortMath
namespace Go.Proofs.Ytkkemmfghjgmeaa.NumK

/-! ### sums over places -/
def sm (g : Nat → Int) : Nat → Int
  | 0 => 0
  | n + 1 => sm g n + g n

theorem sm_congr {g h : Nat → Int} {n : Nat} (e : ∀ k, k < n → g k = h k) : sm g n = sm h n := by
  induction n with
  | zero => rfl
  | succ n ih => rw [sm, sm, ih (fun k hk => e k (by omega)), e n (by omega)]
theorem sm_add (g h : Nat → Int) (n : Nat) : sm (fun k => g k + h k) n = sm g n + sm h n := by
  induction n with
  | zero => rfl
  | succ n ih => rw [sm, sm, sm, ih]; omega
theorem sm_zero (n : Nat) : sm (fun _ => 0) n = 0 := by
  induction n with
  | zero => rfl
  | succ n ih => rw [sm, ih]; rfl
theorem sm_mul (c : Int) (g : Nat → Int) (n : Nat) : sm (fun k => c * g k) n = c * sm g n := by
  induction n with
  | zero => simp [sm]
  | succ n ih => rw [sm, sm, ih, Int.mul_add]
theorem sm_le {g h : Nat → Int} {n : Nat} (e : ∀ k, k < n → g k ≤ h k) : sm g n ≤ sm h n := by
  induction n with
  | zero => exact Int.le_refl _
  | succ n ih =>
    have h1 := ih (fun k hk => e k (by omega))
    have h2 := e n (by omega)
    rw [sm, sm]; omega
theorem sm_const (c : Int) (n : Nat) : sm (fun _ => c) n = n * c := by
  induction n with
  | zero => simp [sm]
  | succ n ih => rw [sm, ih]; rw [show ((n + 1 : Nat) : Int) = (n : Int) + 1 from by omega, Int.add_mul]; omega
theorem sm_delta (a : Nat) (c : Int) (n : Nat) : sm (fun k => if k = a then c else 0) n = if a < n then c else 0 := by
  induction n with
  | zero => simp [sm]
  | succ n ih =>
    rw [sm, ih]
    by_cases h1 : n = a
    · subst h1; rw [if_neg (by omega), if_pos rfl, if_pos (by omega)]; omega
    · rw [if_neg h1]
      by_cases h2 : a < n
      · rw [if_pos h2, if_pos (by omega)]; omega
      · rw [if_neg h2, if_neg (by omega)]; rfl
theorem sm_comm (g : Nat → Nat → Int) (n m : Nat) : sm (fun i => sm (fun j => g i j) m) n = sm (fun j => sm (fun i => g i j) n) m := by
  induction n with
  | zero => simp only [sm]; exact (sm_zero m).symm
  | succ n ih => simp only [sm]; rw [ih, ← sm_add]
theorem sm_list (l : List Int) (n : Nat) (h : l.length = n) : sm (fun k => l.getD k 0) n = l.sum := by
  subst h
  induction l with
  | nil => rfl
  | cons x l ih =>
    have : ∀ m, sm (fun k => (x :: l).getD k 0) (m + 1) = x + sm (fun k => l.getD k 0) m := by
      intro m
      induction m with
      | zero => simp [sm]
      | succ m ihm => rw [sm, ihm, sm]; simp [Int.add_assoc]
    rw [List.length_cons, this, ih, List.sum_cons]

/-! ### places -/
/-- s: who stands at a place; t: the place of one: by f, from the greatest on. -/
structure Pl (f : Nat → Int) (n : Nat) (s t : Nat → Nat) : Prop where
  st : ∀ k, s (t k) = k
  ts : ∀ k, t (s k) = k
  out : ∀ k, n ≤ k → s k = k
  up : ∀ i j, i < j → j < n → Ah f (s i) (s j)

theorem Pl.lt_s {f : Nat → Int} {n : Nat} {s t : Nat → Nat} (h : Pl f n s t) {k : Nat} (hk : k < n) : s k < n := by
  rcases Nat.lt_or_ge (s k) n with c | c
  · exact c
  · have e1 := h.out (s k) c
    have e2 : s k = k := by rw [← h.ts (s k), e1, h.ts]
    omega
theorem Pl.lt_t {f : Nat → Int} {n : Nat} {s t : Nat → Nat} (h : Pl f n s t) {k : Nat} (hk : k < n) : t k < n := by
  rcases Nat.lt_or_ge (t k) n with c | c
  · exact c
  · have e1 := h.out (t k) c
    rw [h.st] at e1; omega

theorem Pl.ahead {f : Nat → Int} {n : Nat} {s t : Nat → Nat} (h : Pl f n s t) {x y : Nat} (hx : x < n) (hy : y < n) : t x < t y ↔ Ah f x y := by
  constructor
  · intro c
    have := h.up (t x) (t y) c (h.lt_t hy)
    rwa [h.st, h.st] at this
  · intro c
    rcases Nat.lt_trichotomy (t x) (t y) with d | d | d
    · exact d
    · have e : x = y := by rw [← h.st x, d, h.st]
      subst e; unfold Ah at c; omega
    · have := h.up (t y) (t x) d (h.lt_t hx)
      rw [h.st, h.st] at this
      unfold Ah at *; omega

theorem mono_ge (g : Nat → Nat) (n : Nat) (h : ∀ i j, i < j → j < n → g i < g j) : ∀ i, i < n → i ≤ g i := by
  intro i
  induction i with
  | zero => intro _; omega
  | succ i ih => intro hi; have := ih (by omega); have := h i (i + 1) (by omega) hi; omega

/-- The places hang on the order alone. -/
theorem Pl.only {f f' : Nat → Int} {n : Nat} {s t s' t' : Nat → Nat} (h : Pl f n s t) (h' : Pl f' n s' t') (hf : ∀ x y, x < n → y < n → (Ah f x y ↔ Ah f' x y)) (k : Nat) (hk : k < n) : t k = t' k := by
  have g1 := mono_ge (fun i => t' (s i)) n (fun i j a b => (h'.ahead (h.lt_s (by omega)) (h.lt_s b)).2 ((hf _ _ (h.lt_s (by omega)) (h.lt_s b)).1 (h.up i j a b)))
  have g2 := mono_ge (fun i => t (s' i)) n (fun i j a b => (h.ahead (h'.lt_s (by omega)) (h'.lt_s b)).2 ((hf _ _ (h'.lt_s (by omega)) (h'.lt_s b)).2 (h'.up i j a b)))
  have hj := h'.lt_t hk
  have a1 := g2 (t' k) hj
  have a2 := g1 (t (s' (t' k))) (by rw [h'.st]; exact h.lt_t hk)
  simp only [h'.st] at a1 a2
  rw [h.st] at a2
  omega

theorem Pl.sum {f : Nat → Int} {n : Nat} {s t : Nat → Nat} (h : Pl f n s t) (g : Nat → Int) : sm (fun k => g (s k)) n = sm g n := by
  have e1 : ∀ k, k < n → g (s k) = sm (fun i => if i = s k then g i else 0) n := by
    intro k hk
    have : sm (fun i => if i = s k then g i else 0) n = sm (fun i => if i = s k then g (s k) else 0) n := sm_congr fun i _ => by
      split
      · next e => rw [e]
      · rfl
    rw [this, sm_delta, if_pos (h.lt_s hk)]
  rw [sm_congr e1, sm_comm]
  refine sm_congr fun i hi => ?_
  have : sm (fun k => if i = s k then g i else 0) n = sm (fun k => if k = t i then g i else 0) n := sm_congr fun k _ => by
    by_cases c : i = s k
    · rw [if_pos c, if_pos (by rw [c, h.ts])]
    · rw [if_neg c, if_neg (fun e => c (by rw [e, h.st]))]
  rw [this, sm_delta, if_pos (h.lt_t hi)]

theorem pl_sym {n : Nat} {s t : Nat → Nat} (st : ∀ k, s (t k) = k) (ts : ∀ k, t (s k) = k) (g : Nat → Int) (hs : ∀ k, k < n → s k < n) (ht : ∀ k, k < n → t k < n) : sm (fun k => g (t k)) n = sm g n := by
  have e1 : ∀ k, k < n → g (t k) = sm (fun i => if i = t k then g i else 0) n := by
    intro k hk
    have : sm (fun i => if i = t k then g i else 0) n = sm (fun i => if i = t k then g (t k) else 0) n := sm_congr fun i _ => by
      split
      · next e => rw [e]
      · rfl
    rw [this, sm_delta, if_pos (ht k hk)]
  rw [sm_congr e1, sm_comm]
  refine sm_congr fun i hi => ?_
  have : sm (fun k => if i = t k then g i else 0) n = sm (fun k => if k = s i then g i else 0) n := sm_congr fun k _ => by
    by_cases c : i = t k
    · rw [if_pos c, if_pos (by rw [c, st])]
    · rw [if_neg c, if_neg (fun e => c (by rw [e, ts]))]
  rw [this, sm_delta, if_pos (hs i hi)]

/-- From a sorted row that was 0, 1, 2 .. -/
theorem pl_of {f : Nat → Int} {n : Nat} {e : Nat → Nat} (hm : Moves 0 n (fun k => k) e) (hs : Sd f 0 n e) : ∃ t, Pl f n e t := by
  obtain ⟨s, t, h1, h2, h3, h4⟩ := hm
  have he : e = s := funext h4
  subst he
  exact ⟨t, h1, h2, fun k hk => h3 k (by omega), fun i j a b => hs i j (by omega) a b⟩

/-! ### weights -/
def wt (l : List Int) (k : Nat) : Int := l.getD k 0
/-- The exact share, rounded down; its remainder; what is left. -/
def qs (T : Int) (l : List Int) (k : Nat) : Int := T * wt l k / l.sum
def rs (T : Int) (l : List Int) (k : Nat) : Int := T * wt l k % l.sum
def lf (T : Int) (l : List Int) : Int := T - sm (qs T l) l.length

theorem wt_nonneg {l : List Int} (h : ∀ x ∈ l, 0 ≤ x) (k : Nat) : 0 ≤ wt l k := by
  unfold wt
  rw [List.getD_eq_getElem?_getD]
  rcases Nat.lt_or_ge k l.length with c | c
  · rw [List.getElem?_eq_getElem c]; exact h _ (List.getElem_mem _)
  · rw [List.getElem?_eq_none c]; exact Int.le_refl _
theorem sum_nonneg {l : List Int} (h : ∀ x ∈ l, 0 ≤ x) : 0 ≤ l.sum := by
  induction l with
  | nil => exact Int.le_refl _
  | cons x l ih => rw [List.sum_cons]; have := h x (by simp); have := ih (fun y hy => h y (by simp [hy])); omega
theorem wt_le_sum {l : List Int} (h : ∀ x ∈ l, 0 ≤ x) (k : Nat) : wt l k ≤ l.sum := by
  induction l generalizing k with
  | nil => simp [wt]
  | cons x l ih =>
    have h1 := h x (by simp)
    have h2 : ∀ y ∈ l, 0 ≤ y := fun y hy => h y (by simp [hy])
    have h3 := sum_nonneg h2
    rw [List.sum_cons]
    cases k with
    | zero => show x ≤ _; omega
    | succ k => have := ih h2 k; show wt l k ≤ _; omega
theorem sum_zero {l : List Int} (h : ∀ x ∈ l, 0 ≤ x) (hz : l.sum = 0) (k : Nat) : wt l k = 0 := by
  have := wt_nonneg h k; have := wt_le_sum h k; omega

theorem qr (T : Int) (l : List Int) (k : Nat) : qs T l k * l.sum + rs T l k = T * wt l k := by
  unfold qs rs; rw [Int.mul_comm]; exact Int.mul_ediv_add_emod _ _
theorem rs_bd (T : Int) (l : List Int) (k : Nat) (h : 0 < l.sum) : 0 ≤ rs T l k ∧ rs T l k < l.sum :=
  ⟨Int.emod_nonneg _ (by omega), Int.emod_lt_of_pos _ h⟩
theorem qs_nonneg {T : Int} {l : List Int} (hT : 0 ≤ T) (h : ∀ x ∈ l, 0 ≤ x) (k : Nat) : 0 ≤ qs T l k :=
  Int.ediv_nonneg (Int.mul_nonneg hT (wt_nonneg h k)) (sum_nonneg h)
theorem qs_le {T : Int} {l : List Int} (hT : 0 ≤ T) (h : ∀ x ∈ l, 0 ≤ x) (k : Nat) : qs T l k ≤ T := by
  unfold qs
  have h1 := sum_nonneg h
  rcases Int.lt_or_eq_of_le h1 with c | c
  · refine Int.ediv_le_of_le_mul c ?_
    exact Int.mul_le_mul_of_nonneg_left (wt_le_sum h k) hT
  · rw [← c, Int.ediv_zero]; exact hT

theorem rest_sum (T : Int) (l : List Int) (m : Nat) : sm (rs T l) m = T * sm (wt l) m - l.sum * sm (qs T l) m := by
  have e : sm (rs T l) m = sm (fun k => T * wt l k + (-l.sum) * qs T l k) m := sm_congr fun k _ => by
    have := qr T l k
    rw [Int.mul_comm] at this
    rw [Int.neg_mul]; omega
  rw [e, sm_add, sm_mul, sm_mul, Int.neg_mul]; omega
theorem rest_all (T : Int) (l : List Int) : sm (rs T l) l.length = l.sum * lf T l := by
  rw [rest_sum T l _]
  unfold lf
  have : sm (wt l) l.length = l.sum := sm_list l _ rfl
  rw [this, Int.mul_sub, Int.mul_comm T]

theorem lf_bd {T : Int} {l : List Int} (h : ∀ x ∈ l, 0 ≤ x) (hz : l.sum = 0 → T = 0) : 0 ≤ lf T l ∧ lf T l ≤ l.length := by
  have h0 := sum_nonneg h
  rcases Int.lt_or_eq_of_le h0 with c | c
  · have e := rest_all T l
    have a1 : 0 ≤ sm (rs T l) l.length := by
      have := sm_le (g := fun _ => 0) (h := rs T l) (n := l.length) fun k _ => (rs_bd T l k c).1
      rwa [sm_zero] at this
    have a2 : sm (rs T l) l.length ≤ l.length * l.sum := by
      have := sm_le (g := rs T l) (h := fun _ => l.sum) (n := l.length) fun k _ => by have := (rs_bd T l k c).2; omega
      rwa [sm_const] at this
    rw [e] at a1 a2
    rw [Int.mul_comm (l.length : Int)] at a2
    exact ⟨by
      rcases Int.lt_or_le (lf T l) 0 with d | d
      · have := Int.mul_neg_of_pos_of_neg c d; omega
      · exact d, Int.le_of_mul_le_mul_left a2 c⟩
  · have hT := hz c.symm
    subst hT
    have : lf 0 l = 0 := by
      unfold lf
      have : sm (qs 0 l) l.length = sm (fun _ => 0) l.length := sm_congr fun k _ => by unfold qs; simp
      rw [this, sm_zero]; rfl
    rw [this]; omega
theorem lf_mid {T : Int} {l : List Int} (hT : 0 ≤ T) (h : ∀ x ∈ l, 0 ≤ x) (hz : l.sum = 0 → T = 0) (m : Nat) (hm : m ≤ l.length) : 0 ≤ T - sm (qs T l) m ∧ T - sm (qs T l) m ≤ T := by
  have a0 := lf_bd h hz
  unfold lf at a0
  have a1 : ∀ d, sm (qs T l) m ≤ sm (qs T l) (m + d) := by
    intro d
    induction d with
    | zero => exact Int.le_refl _
    | succ d ih => have := qs_nonneg hT h (m + d); rw [show m + (d + 1) = (m + d) + 1 from rfl, sm]; omega
  have a2 := a1 (l.length - m)
  rw [show m + (l.length - m) = l.length from by omega] at a2
  have a3 : 0 ≤ sm (qs T l) m := by
    have := sm_le (g := fun _ => 0) (h := qs T l) (n := m) fun k _ => qs_nonneg hT h k
    rwa [sm_zero] at this
  omega

/-- Who gets one more. -/
def pt (T : Int) (l : List Int) (t : Nat → Nat) (k : Nat) : Int := qs T l k + if (t k : Int) < lf T l then 1 else 0

theorem more_pos {T : Int} {l : List Int} {s t : Nat → Nat} (hS : 0 < l.sum) (P : Pl (rs T l) l.length s t) (k : Nat) (hk : k < l.length) (hl : (t k : Int) < lf T l) : 0 < rs T l k := by
  rcases Int.lt_or_le 0 (rs T l k) with c | c
  · exact c
  · have e := rest_all T l
    rw [← P.sum (rs T l)] at e
    have ht := P.lt_t hk
    have bd : ∀ j, j < l.length → rs T l (s j) ≤ if j < t k then l.sum else 0 := by
      intro j hj
      by_cases d : j < t k
      · rw [if_pos d]; have := (rs_bd T l (s j) hS).2; omega
      · rw [if_neg d]
        by_cases d2 : j = t k
        · rw [d2, P.st]; omega
        · have := P.up (t k) j (by omega) hj
          rw [P.st] at this
          unfold Ah at this; omega
    have a := sm_le bd
    have b : sm (fun j => if j < t k then l.sum else 0) l.length = t k * l.sum := by
      have : ∀ n, sm (fun j => if j < t k then l.sum else 0) n = (if n < t k then n else t k : Nat) * l.sum := by
        intro n
        induction n with
        | zero =>
          have : (if 0 < t k then 0 else t k : Nat) = 0 := by split <;> omega
          rw [this]; simp [sm]
        | succ n ih =>
          rw [sm, ih]
          by_cases d : n < t k
          · rw [if_pos d, if_pos d]
            have : (if n + 1 < t k then n + 1 else t k : Nat) = n + 1 := by split <;> omega
            rw [this, show ((n + 1 : Nat) : Int) = (n : Int) + 1 from by omega, Int.add_mul]; omega
          · rw [if_neg d, if_neg d, if_neg (by omega)]; omega
      rw [this, if_neg (by omega)]
    rw [e, b, Int.mul_comm] at a
    have := Int.le_of_mul_le_mul_right a hS
    omega

theorem ones_sum (c : Int) (n : Nat) (h0 : 0 ≤ c) (h1 : c ≤ n) : sm (fun k => if (k : Int) < c then 1 else 0) n = c := by
  have : ∀ m : Nat, sm (fun k => if (k : Int) < c then 1 else 0) m = if (m : Int) < c then (m : Int) else c := by
    intro m
    induction m with
    | zero => simp only [sm]; split <;> omega
    | succ m ih =>
      simp only [sm]; rw [ih]
      split <;> split <;> omega
  rw [this]; split <;> omega

theorem pt_sum {T : Int} {l : List Int} {s t : Nat → Nat} (h : ∀ x ∈ l, 0 ≤ x) (hz : l.sum = 0 → T = 0) (P : Pl (rs T l) l.length s t) : sm (pt T l t) l.length = T := by
  have e : sm (pt T l t) l.length = sm (qs T l) l.length + sm (fun k => if (t k : Int) < lf T l then 1 else 0) l.length := sm_add _ _ _
  have b := lf_bd h hz
  have e2 := pl_sym P.st P.ts (fun k => if (k : Int) < lf T l then 1 else 0) (fun k => P.lt_s) (fun k => P.lt_t)
  rw [e, e2, ones_sum _ _ b.1 b.2]
  unfold lf; omega

end Go.Proofs.Ytkkemmfghjgmeaa.NumK
