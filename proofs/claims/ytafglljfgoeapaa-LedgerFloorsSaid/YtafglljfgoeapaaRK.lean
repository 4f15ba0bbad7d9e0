/- Accounts and legs among a law's arguments. -/
import Derived.Test.YtafglljfgoeapaaRE
import Derived.Deep.Slices
import Derived.Test.YtafglljfgoeapaaRA2
import Derived.Test.YtafglljfgoeapaaRJ
namespace Go.Proofs.Ytafglljfgoeapaa.NumK
open Go.RowKit Go.ChangeShapes Go.WideShapes

abbrev spAc : Sp Ac := spPair (spInt .i64) (spPair (spInt .i64) (spInt .i64))
theorem opens_acct : Opens Try.prog 27 spAc :=
  opens_struct Try.underlying27 (by kernel_rfl)
    (Fs.cons _ _ 0 rfl (opens_int Try.underlying3 (by kernel_rfl)) (Fs.cons _ _ 1 rfl (opens_int Try.underlying3 (by kernel_rfl)) (Fs.last _ 2 rfl (opens_int Try.underlying3 (by kernel_rfl)))))
theorem acct_of {w : World} {cs : Array Value} {a : Int × Int × Int} (h : spAc.rd w cs.toList a) : Value.agg cs = acV a.1 a.2.1 a.2.2 := by
  obtain ⟨c1, c2, e, ⟨rfl, _⟩, c3, c4, rfl, ⟨rfl, _⟩, rfl, _⟩ := h
  unfold acV
  congr 1
  exact Array.toList_inj.1 (by rw [e]; rfl)
theorem opens_leg : Opens Try.prog 53 (spPair spAc (spInt .i64)) :=
  opens_struct Try.underlying53 (by kernel_rfl) (Fs.cons _ _ 0 rfl opens_acct (Fs.last _ 3 rfl (opens_int Try.underlying3 (by kernel_rfl))))
theorem opens_legs : Opens Try.prog 25 (spSlice (spPair spAc (spInt .i64))) := opens_slice Try.underlying25 (by kernel_rfl) opens_leg (by decide)
theorem legs_of_row {w : World} {A : Option Addr} {n : Nat} {l : List Lg} (h : Row (spPair spAc (spInt .i64)) w A n l) : RowE enLg w A n l := by
  have hf : ∀ (cs : List Value) (a : Lg), (spPair spAc (spInt .i64)).rd w cs a → enLg.sp.rd w cs a := by
    intro cs a hr
    obtain ⟨c1, c2, rfl, ⟨c3, c4, rfl, ⟨rfl, _⟩, c5, c6, rfl, ⟨rfl, _⟩, rfl, _⟩, rfl, _⟩ := hr
    rfl
  have := Row.imp (A := spPair spAc (spInt .i64)) (B := enLg.sp) (fun x : Lg => x) rfl hf h
  rwa [List.map_id'] at this
end Go.Proofs.Ytafglljfgoeapaa.NumK
namespace Go.Proofs.Ytafglljfgoeapaa.NumK
open Go.RowKit

theorem money_any (n : Int) (w : World) :
    Calls Try.prog 63 #[.int .i64 n] w fun e w' => e = .returned (.tuple #[.int .i64 (capV n), .int .i64 (capE n)]) ∧ Grew w w' := by
  by_cases h : isMoney n = true
  · have hr : [n].all isMoney = true := by simp [h]
    have H := Lib.hid h
    have C := (right_any (some ⟨w.heap.size, 0, none⟩) 1 1 [n] _ (ints1 w n 3) (by omega))
    rw [hr] at C
    clear hr h
    go_enter Try.func63, Try.ntmps63
    go_wp2_with (go_at_call 45; refine C.mono ?_; rintro e w' ⟨rfl, rfl⟩)
    go_ret2
    exact ⟨ret2 (capV_in H.out).symm (capE_in H.out).symm, grew_alloc _ _ _⟩
  · simp only [Bool.not_eq_true] at h
    have hr : [n].all isMoney = false := by simp [h]
    have H := Lib.hid h
    have C := (right_any (some ⟨w.heap.size, 0, none⟩) 1 1 [n] _ (ints1 w n 3) (by omega))
    rw [hr] at C
    clear hr h
    go_enter Try.func63, Try.ntmps63
    go_wp2_with (go_at_call 45; refine C.mono ?_; rintro e w' ⟨rfl, rfl⟩)
    go_ret2
    exact ⟨ret2 (capV_out H.out).symm (capE_out H.out).symm, grew_alloc _ _ _⟩

/-! ### Sum -/
def up (zs : List Int) : Int := (zs.map (· / 2147483648)).sum
def lo (zs : List Int) : Int := (zs.map (· % 2147483648)).sum

theorem up_succ (zs : List Int) (k : Nat) (h : k < zs.length) : up (zs.take (k + 1)) = up (zs.take k) + zs.getD k 0 / 2147483648 := by
  unfold up
  rw [List.take_succ_eq_append_getElem h, List.map_append, List.sum_append]
  simp [List.getD, List.getElem?_eq_getElem h]
theorem lo_succ (zs : List Int) (k : Nat) (h : k < zs.length) : lo (zs.take (k + 1)) = lo (zs.take k) + zs.getD k 0 % 2147483648 := by
  unfold lo
  rw [List.take_succ_eq_append_getElem h, List.map_append, List.sum_append]
  simp [List.getD, List.getElem?_eq_getElem h]
theorem up_lo (zs : List Int) : up zs * 2147483648 + lo zs = zs.sum := by
  induction zs with
  | nil => rfl
  | cons z zs ih => simp only [up, lo, List.map_cons, List.sum_cons] at *; omega
theorem lo_bd (zs : List Int) : 0 ≤ lo zs ∧ lo zs ≤ zs.length * 2147483648 := by
  induction zs with
  | nil => simp [lo]
  | cons z zs ih => simp only [lo, List.map_cons, List.sum_cons, List.length_cons] at *; omega
theorem up_bd (zs : List Int) (h : zs.all isMoney = true) : -(zs.length * 2147483648) ≤ up zs ∧ up zs ≤ zs.length * 2147483648 := by
  induction zs with
  | nil => simp [up]
  | cons z zs ih =>
    simp only [List.all_cons, Bool.and_eq_true, isMoney_iff] at h
    have := ih h.2
    simp only [up, List.map_cons, List.sum_cons, List.length_cons] at *; omega

def sumV (zs : List Int) : Int := if zs.all isMoney then capV zs.sum else 0
def sumE (zs : List Int) : Int := if zs.all isMoney then capE zs.sum else 3
theorem sumV_in {zs : List Int} (h : zs.all isMoney = true) : sumV zs = capV zs.sum := by simp only [sumV, h, if_true]
theorem sumE_in {zs : List Int} (h : zs.all isMoney = true) : sumE zs = capE zs.sum := by simp only [sumE, h, if_true]
theorem sumV_out {zs : List Int} (h : zs.all isMoney = false) : sumV zs = 0 := by simp [sumV, h]
theorem sumE_out {zs : List Int} (h : zs.all isMoney = false) : sumE zs = 3 := by simp [sumE, h]

theorem sum_wrong (A : Option Addr) (n c : Nat) (zs : List Int) (w : World) (hz : Ints w A n zs) (hn : n ≤ 9223372036854775807) (h : zs.all isMoney = false) :
    Calls Try.prog 56 #[.slice A n c] w fun e w' => e = .returned (.tuple #[.int .i64 (sumV zs), .int .i64 (sumE zs)]) ∧ Grew w w' := by
  have C := right_any A n c zs w hz hn
  rw [h] at C
  have H := Lib.hid h
  clear h hz
  go_enter Try.func56, Try.ntmps56
  go_wp2_with (go_at_call 45; refine C.mono ?_; rintro e w' ⟨rfl, rfl⟩)
  go_ret2
  exact ⟨ret2 (sumV_out H.out).symm (sumE_out H.out).symm, grew_refl _⟩

set_option maxHeartbeats 1000000 in
theorem sum_right (A : Option Addr) (n c : Nat) (zs : List Int) (w : World) (hz : Ints w A n zs) (hn : n ≤ 1000000) (h : zs.all isMoney = true) :
    Calls Try.prog 56 #[.slice A n c] w fun e w' => e = .returned (.tuple #[.int .i64 (sumV zs), .int .i64 (sumE zs)]) ∧ Grew w w' := by
  have C := right_any A n c zs w hz (by omega)
  rw [h] at C
  have H := Lib.hid h
  have HZ : Hid (Ints w A n zs) := hz
  clear h hz
  go_enter Try.func56, Try.ntmps56
  go_wp2_with (go_at_call 45; refine C.mono ?_; rintro e w' ⟨rfl, rfl⟩)
  go_loop [4, 5, 13] (fun u l i => ∃ k : Nat, k ≤ n ∧ i = .int .i64 k ∧ u = .int .i64 (up (zs.take k)) ∧ l = .int .i64 (lo (zs.take k))) (fun _ _ i => n - (intOf i).toNat)
  case atStart => exact ⟨0, Nat.zero_le _, rfl, rfl, rfl⟩
  case round =>
    obtain ⟨k, hk, rfl, rfl, rfl⟩ := hrel
    have hlen := HZ.out.1
    have b1 := up_bd (zs.take k) (by rw [List.all_eq_true]; intro x hx; exact (List.all_eq_true.1 H.out) x (List.mem_of_mem_take hx))
    have b2 := lo_bd (zs.take k)
    have hlk : (zs.take k).length = k := by simp; omega
    rw [hlk] at b1 b2
    by_cases hlt : k < n
    · obtain ⟨b, o, rfl, _, hc⟩ := HZ.out.2 (by omega)
      have hcell := hc k hlt
      have hu := up_succ zs k (by omega)
      have hl := lo_succ zs k (by omega)
      have hm : isMoney (zs.getD k 0) = true := (List.all_eq_true.1 H.out) _ (by rw [List.getD_eq_getElem?_getD, List.getElem?_eq_getElem (by omega)]; exact List.getElem_mem _)
      rw [isMoney_iff] at hm
      obtain ⟨hm1, hm2⟩ := hm
      obtain ⟨b3, b4⟩ := b1
      obtain ⟨b5, b6⟩ := b2
      generalize zs.getD k 0 = y at *
      generalize up (zs.take k) = U at *
      generalize lo (zs.take k) = L at *
      have HU := Lib.hid hu
      have HL := Lib.hid hl
      have k31 := mask31 y
      clear hu hl hc hlen hlk
      go_wp2
      go_round
      case rel => exact ⟨k + 1, by omega, by go_num, by rw [HU.out], by rw [HL.out]⟩
      case measure => simp [intOf]; omega
    · have : k = n := by omega
      subst this
      have ht : zs.take k = zs := List.take_of_length_le (by omega)
      rw [ht] at b1 b2 ⊢
      have hs := up_lo zs
      have HS : Hid (zs.sum = (up zs + lo zs / 2147483648) * 2147483648 + lo zs % 2147483648) := by show zs.sum = _; omega
      clear hs ht hlk hlen hlt
      have e1 : sumV zs = capV zs.sum := sumV_in H.out
      have e2 : sumE zs = capE zs.sum := sumE_in H.out
      have E1 := Lib.hid e1
      have E2 := Lib.hid e2
      clear e1 e2
      generalize up zs = U at *
      generalize lo zs = L at *
      obtain ⟨b3, b4⟩ := b1
      obtain ⟨b5, b6⟩ := b2
      have m31 := mask31 L
      have q0 : 0 ≤ L / 2147483648 := by omega
      have q1 : L / 2147483648 ≤ 1000000 := by omega
      have r0 : 0 ≤ L % 2147483648 := by omega
      have r1 : L % 2147483648 < 2147483648 := by omega
      by_cases c1 : U + L / 2147483648 < -2147483648
      · have hf : isMoney zs.sum = false := by rw [← Bool.not_eq_true, isMoney_iff]; have := HS.out; omega
        have HF := Lib.hid hf
        clear hf
        go_wp2
        go_ret2
        exact ⟨ret2 (E1.out.trans (capV_out HF.out)).symm (E2.out.trans (capE_out HF.out)).symm, grew_refl _⟩
      · by_cases c2 : 2147483648 < U + L / 2147483648
        · have hf : isMoney zs.sum = false := by rw [← Bool.not_eq_true, isMoney_iff]; have := HS.out; omega
          have HF := Lib.hid hf
          clear hf
          go_wp2
          go_ret2
          exact ⟨ret2 (E1.out.trans (capV_out HF.out)).symm (E2.out.trans (capE_out HF.out)).symm, grew_refl _⟩
        · go_wp2_with (go_at_call 63; refine (money_any _ _).mono ?_; rintro e w' ⟨rfl, hg⟩)
          go_ret2
          have hs := HS.out
          exact ⟨ret2 (by rw [E1.out, hs]) (by rw [E2.out, hs]), hg⟩

theorem sum_any (A : Option Addr) (n c : Nat) (zs : List Int) (w : World) (hz : Ints w A n zs) (hn : n ≤ 1000000) :
    Calls Try.prog 56 #[.slice A n c] w fun e w' => e = .returned (.tuple #[.int .i64 (sumV zs), .int .i64 (sumE zs)]) ∧ Grew w w' := by
  by_cases h : zs.all isMoney = true
  · exact sum_right A n c zs w hz hn h
  · exact sum_wrong A n c zs w hz (by omega) (by simpa using h)

end Go.Proofs.Ytafglljfgoeapaa.NumK
namespace Go.Proofs.Ytafglljfgoeapaa.NumK
open Go.RowKit

def lessB (a b : Ac) : Bool := lessA a.1 a.2.1 a.2.2 b.1 b.2.1 b.2.2
def floorB (a : Ac) : Int := floorA a.1 a.2.1 a.2.2
def okB (x : Lg) : Bool := okL x && decide (x.2 ≠ 0) && decide (floorB x.1 ≤ x.2)
def stepB (l : List Lg) (i : Nat) : Bool := okB (l.getD i lg0) && (decide (i = 0) || lessB (l.getD (i - 1) lg0).1 (l.getD i lg0).1)
/-- The balances rise, and each may be what it is. -/
def rightB (l : List Lg) : Bool := (List.range l.length).all (stepB l)
def ledgerB (last : Int) (l : List Lg) : Bool := decide (0 ≤ last) && rightB l && evenL l

theorem rightB_iff (l : List Lg) : rightB l = true ↔ ∀ i, i < l.length → stepB l i = true := by
  unfold rightB
  rw [List.all_eq_true]
  exact ⟨fun h i hi => h i (List.mem_range.2 hi), fun h i hi => h i (List.mem_range.1 hi)⟩
theorem rightB_no (l : List Lg) (i : Nat) (hi : i < l.length) (h : stepB l i = false) : rightB l = false := by
  rw [← Bool.not_eq_true, rightB_iff]
  intro hh
  have := hh i hi
  rw [h] at this; cases this

/-! ### the order -/
theorem lessB_iff (a b : Ac) : lessB a b = true ↔ a.1 < b.1 ∨ (a.1 = b.1 ∧ (a.2.1 < b.2.1 ∨ (a.2.1 = b.2.1 ∧ a.2.2 < b.2.2))) := by
  unfold lessB lessA
  split
  · split
    · simp; omega
    · simp; omega
  · simp; omega
theorem lessB_irrefl (a : Ac) : lessB a a = false := by
  rw [← Bool.not_eq_true, lessB_iff]; omega
theorem lessB_trans {a b c : Ac} (h : lessB a b = true) (k : lessB b c = true) : lessB a c = true := by
  rw [lessB_iff] at *; omega
theorem lessB_asymm {a b : Ac} (h : lessB a b = true) (k : lessB b a = true) : False := by
  rw [lessB_iff] at *; omega
theorem lessB_ne {a b : Ac} (h : lessB a b = true) : a ≠ b := by
  rintro rfl; rw [lessB_irrefl] at h; cases h
def Rise (l : List Lg) : Prop := l.Pairwise fun x y => lessB x.1 y.1 = true
theorem allK_rise : allK.Pairwise fun x y => lessB x y = true := by decide +kernel
theorem rise_of_step (l : List Lg) (h : ∀ i, i < l.length → 0 < i → lessB (l.getD (i - 1) lg0).1 (l.getD i lg0).1 = true) : Rise l := by
  have key : ∀ j i, i < j → j < l.length → lessB (l.getD i lg0).1 (l.getD j lg0).1 = true := by
    intro j
    induction j with
    | zero => intro i hi; omega
    | succ j ih =>
      intro i hi hj
      have h1 := h (j + 1) hj (by omega)
      rw [show j + 1 - 1 = j by omega] at h1
      by_cases e : i = j
      · subst e; exact h1
      · exact lessB_trans (ih i (by omega) (by omega)) h1
  unfold Rise
  rw [List.pairwise_iff_getElem]
  intro i j hi hj hij
  have := key j i hij hj
  simpa [List.getD, hi, hj] using this
theorem step_of_rise {l : List Lg} (h : Rise l) (i : Nat) (hi : i < l.length) (h0 : 0 < i) : lessB (l.getD (i - 1) lg0).1 (l.getD i lg0).1 = true := by
  unfold Rise at h
  rw [List.pairwise_iff_getElem] at h
  have := h (i - 1) i (by omega) hi (by omega)
  have h2 : i - 1 < l.length := by omega
  simpa [List.getD, hi, h2] using this
theorem rightB_parts {l : List Lg} (h : rightB l = true) : (∀ x ∈ l, okB x = true) ∧ Rise l := by
  rw [rightB_iff] at h
  constructor
  · intro x hx
    obtain ⟨i, hi, rfl⟩ := List.getElem_of_mem hx
    have := h i hi
    unfold stepB at this
    rw [Bool.and_eq_true] at this
    rw [show l.getD i lg0 = l[i] by simp [List.getD, hi]] at this
    exact this.1
  · refine rise_of_step l fun i hi h0 => ?_
    have := h i hi
    unfold stepB at this
    rw [Bool.and_eq_true, Bool.or_eq_true] at this
    rcases this.2 with h1 | h1
    · simp at h1; omega
    · exact h1
theorem rightB_of {l : List Lg} (h1 : ∀ x ∈ l, okB x = true) (h2 : Rise l) : rightB l = true := by
  rw [rightB_iff]
  intro i hi
  unfold stepB
  rw [Bool.and_eq_true, Bool.or_eq_true]
  refine ⟨h1 _ (by rw [show l.getD i lg0 = l[i] by simp [List.getD, hi]]; exact List.getElem_mem hi), ?_⟩
  rcases Nat.eq_zero_or_pos i with h0 | h0
  · exact Or.inl (by simpa using h0)
  · exact Or.inr (step_of_rise h2 i hi h0)
theorem okB_parts {x : Lg} (h : okB x = true) : okL x = true ∧ x.2 ≠ 0 ∧ floorB x.1 ≤ x.2 := by
  unfold okB at h
  simp only [Bool.and_eq_true, decide_eq_true_eq] at h
  exact ⟨h.1.1, h.1.2, h.2⟩
theorem rightB_may {l : List Lg} (h : rightB l = true) : mayL l = true := by
  unfold mayL
  rw [List.all_eq_true]
  exact fun x hx => (okB_parts ((rightB_parts h).1 x hx)).1

/-! ### what an account has -/
def ofL (l : List Lg) (a : Ac) : Int := match l with | [] => 0 | x :: l => if x.1 = a then x.2 else ofL l a
theorem ofL_cons (x : Lg) (l : List Lg) (a : Ac) : ofL (x :: l) a = if x.1 = a then x.2 else ofL l a := rfl
theorem ofL_drop (l : List Lg) (a : Ac) (k : Nat) (h : ∀ i, i < k → i < l.length → (l.getD i lg0).1 ≠ a) : ofL l a = ofL (l.drop k) a := by
  induction k with
  | zero => rfl
  | succ k ih =>
    rw [ih fun i hi hl => h i (by omega) hl]
    rcases Nat.lt_or_ge k l.length with c | c
    · rw [List.drop_eq_getElem_cons c, ofL_cons, if_neg]
      have := h k (by omega) c
      rwa [show l.getD k lg0 = l[k] by simp [List.getD, c]] at this
    · rw [List.drop_of_length_le c, List.drop_of_length_le (by omega)]
theorem ofL_found (l : List Lg) (a : Ac) (k : Nat) (hk : k < l.length) (h : ∀ i, i < k → (l.getD i lg0).1 ≠ a) (e : (l.getD k lg0).1 = a) : ofL l a = (l.getD k lg0).2 := by
  rw [ofL_drop l a k fun i hi _ => h i hi, List.drop_eq_getElem_cons hk, ofL_cons]
  rw [show l.getD k lg0 = l[k] by simp [List.getD, hk]] at *
  rw [if_pos e]
theorem ofL_none (l : List Lg) (a : Ac) (h : ∀ i, i < l.length → (l.getD i lg0).1 ≠ a) : ofL l a = 0 := by
  rw [ofL_drop l a l.length fun i hi _ => h i hi, List.drop_length]; rfl
theorem sumA_none (l : List Lg) (a : Ac) (h : ∀ x ∈ l, x.1 ≠ a) : sumA l a = 0 := by
  induction l with
  | nil => rfl
  | cons x l ih => rw [sumA_cons, if_neg (h x (by simp)), ih fun y hy => h y (by simp [hy])]; rfl
theorem ofL_sum {l : List Lg} (h : Rise l) (a : Ac) : ofL l a = sumA l a := by
  induction l with
  | nil => rfl
  | cons x l ih =>
    have h := List.pairwise_cons.1 h
    rw [ofL_cons, sumA_cons]
    split
    · rename_i e
      rw [sumA_none l a]
      · omega
      · intro y hy e2
        have := h.1 y hy
        rw [e, e2, lessB_irrefl] at this; cases this
    · rw [ih h.2]; omega
theorem ofL_mem {l : List Lg} (h : Rise l) (x : Lg) (hx : x ∈ l) : sumA l x.1 = x.2 := by
  rw [← ofL_sum h]
  induction l with
  | nil => cases hx
  | cons y l ih =>
    have h := List.pairwise_cons.1 h
    rw [ofL_cons]
    rcases List.mem_cons.1 hx with rfl | hx
    · rw [if_pos rfl]
    · rw [if_neg (lessB_ne (h.1 x hx)), ih h.2 hx]
theorem ofL_bd {l : List Lg} (h : ∀ x ∈ l, -9223372036854775808 ≤ x.2 ∧ x.2 ≤ 9223372036854775807) (a : Ac) : -9223372036854775808 ≤ ofL l a ∧ ofL l a ≤ 9223372036854775807 := by
  induction l with
  | nil => exact ⟨by show (-9223372036854775808 : Int) ≤ 0; decide, by show (0 : Int) ≤ 9223372036854775807; decide⟩
  | cons x l ih =>
    rw [ofL_cons]
    split
    · exact h x (by simp)
    · exact ih fun y hy => h y (by simp [hy])
theorem sumA_money {l : List Lg} (h : rightB l = true) (a : Ac) : isMoney (sumA l a) = true ∧ (a ∈ allK → floorB a ≤ sumA l a) := by
  obtain ⟨h1, h2⟩ := rightB_parts h
  by_cases c : ∃ x ∈ l, x.1 = a
  · obtain ⟨x, hx, rfl⟩ := c
    rw [ofL_mem h2 x hx]
    obtain ⟨k1, _, k3⟩ := okB_parts (h1 x hx)
    exact ⟨by rw [isMoney_iff]; exact (okL_parts k1).2, fun _ => k3⟩
  · rw [sumA_none l a fun x hx e => c ⟨x, hx, e⟩]
    refine ⟨by decide, fun _ => ?_⟩
    unfold floorB floorA
    split <;> omega

/-- Rows that rise and have the same in them are the same. -/
theorem rise_eq {l m : List Lg} (hl : Rise l) (hm : Rise m) (h : ∀ x, x ∈ l ↔ x ∈ m) : l = m := by
  induction l generalizing m with
  | nil =>
    cases m with
    | nil => rfl
    | cons y m => have := (h y).2 (by simp); cases this
  | cons x l ih =>
    cases m with
    | nil => have := (h x).1 (by simp); cases this
    | cons y m =>
      have hl := List.pairwise_cons.1 hl
      have hm := List.pairwise_cons.1 hm
      have e : x = y := by
        by_cases e : x = y
        · exact e
        · exfalso
          have h1 : x ∈ m := by rcases List.mem_cons.1 ((h x).1 (by simp)) with h1 | h1; exact absurd h1 e; exact h1
          have h2 : y ∈ l := by rcases List.mem_cons.1 ((h y).2 (by simp)) with h1 | h1; exact absurd h1.symm e; exact h1
          exact lessB_asymm (hl.1 y h2) (hm.1 x h1)
      subst e
      rw [ih hl.2 hm.2 fun z => ?_]
      constructor
      · intro hz
        rcases List.mem_cons.1 ((h z).1 (by simp [hz])) with h1 | h1
        · subst h1; have := hl.1 z hz; rw [lessB_irrefl] at this; cases this
        · exact h1
      · intro hz
        rcases List.mem_cons.1 ((h z).2 (by simp [hz])) with h1 | h1
        · subst h1; have := hm.1 z hz; rw [lessB_irrefl] at this; cases this
        · exact h1
theorem pick_some {f : Ac → Int} {a : Ac} {x : Lg} : pick f a = some x ↔ x = (a, f a) ∧ f a ≠ 0 := by
  unfold pick
  split
  · rename_i h; constructor
    · intro h2; cases h2
    · rintro ⟨_, h2⟩; exact absurd h h2
  · rename_i h; constructor
    · intro h2; cases h2; exact ⟨rfl, h⟩
    · rintro ⟨rfl, _⟩; rfl
theorem mem_joinF {f : Ac → Int} {x : Lg} : x ∈ joinF f 108 ↔ x.1 ∈ allK ∧ x.2 = f x.1 ∧ x.2 ≠ 0 := by
  rw [joinF_pick, List.mem_filterMap]
  constructor
  · rintro ⟨a, ha, hp⟩
    obtain ⟨rfl, h0⟩ := pick_some.1 hp
    exact ⟨ha, rfl, h0⟩
  · rintro ⟨h1, h2, h3⟩
    exact ⟨x.1, h1, pick_some.2 ⟨Prod.ext rfl h2, by rw [← h2]; exact h3⟩⟩
theorem joinF_rise (f : Ac → Int) : Rise (joinF f 108) := by
  rw [joinF_pick]
  unfold Rise
  rw [List.pairwise_filterMap]
  refine allK_rise.imp fun {a b} h x hx y hy => ?_
  obtain ⟨rfl, _⟩ := pick_some.1 hx
  obtain ⟨rfl, _⟩ := pick_some.1 hy
  exact h
/-- Right balances stand as they add up. -/
theorem right_self {l : List Lg} (h : rightB l = true) : joinF (sumA l) 108 = l := by
  obtain ⟨h1, h2⟩ := rightB_parts h
  refine rise_eq (joinF_rise _) h2 fun x => ?_
  rw [mem_joinF]
  constructor
  · rintro ⟨ha, hx, h0⟩
    by_cases c : ∃ y ∈ l, y.1 = x.1
    · obtain ⟨y, hy, e⟩ := c
      have := ofL_mem h2 y hy
      rw [e, ← hx] at this
      rwa [Prod.ext e.symm this]
    · rw [sumA_none l x.1 fun y hy e => c ⟨y, hy, e⟩] at hx
      exact absurd hx h0
  · intro hx
    obtain ⟨k1, k2, k3⟩ := okB_parts (h1 x hx)
    exact ⟨mem_allK _ (okL_parts k1).1, (ofL_mem h2 x hx).symm, k2⟩
theorem joinF_right {f : Ac → Int} (h1 : ∀ a ∈ allK, isMoney (f a) = true) (h2 : ∀ a ∈ allK, floorB a ≤ f a) : rightB (joinF f 108) = true := by
  refine rightB_of (fun x hx => ?_) (joinF_rise f)
  obtain ⟨ha, hx, h0⟩ := mem_joinF.1 hx
  unfold okB okL
  simp only [Bool.and_eq_true, decide_eq_true_eq]
  rw [hx]
  exact ⟨⟨⟨allK_right _ ha, h1 _ ha⟩, by rw [← hx]; exact h0⟩, h2 _ ha⟩
theorem joinF_sum {l : List Lg} (hm : mayL l = true) (a : Ac) : sumA (joinF (sumA l) 108) a = sumA l a := by
  rw [joinF_pick, sumA_pick _ _ allK_nodup]
  split
  · rfl
  · rename_i hn; rw [sumA_out l a hm hn]
theorem right_len {l : List Lg} (h : rightB l = true) : l.length ≤ 108 := by
  rw [← right_self h]; exact joinF_len _ _

/-! ### postings -/
def addE (l m : List Lg) : Int :=
  if allK.all (fun a => isMoney (sumA (l ++ m) a)) then (if allK.all (fun a => decide (floorB a ≤ sumA (l ++ m) a)) then 0 else 13) else 1
def postE (last : Int) (l : List Lg) (id : Int) (m : List Lg) : Int :=
  if ledgerB last l then (if id < 1 ∨ 1099511627776 < id then 3 else if id ≤ last then 18 else if checkE m = 0 then addE l m else checkE m) else 14
def postL (last : Int) (l : List Lg) (id : Int) (m : List Lg) : List Lg := if postE last l id m = 0 then joinF (sumA (l ++ m)) 108 else []
def postN (last : Int) (l : List Lg) (id : Int) (m : List Lg) : Int := if postE last l id m = 0 then id else 0

theorem ledger_parts {last : Int} {l : List Lg} (h : ledgerB last l = true) : 0 ≤ last ∧ rightB l = true ∧ evenL l = true := by
  unfold ledgerB at h
  simp only [Bool.and_eq_true, decide_eq_true_eq] at h
  exact ⟨h.1.1, h.1.2, h.2⟩
theorem ledger_nil : ledgerB 0 [] = true := by decide
theorem addE_zero {l m : List Lg} : addE l m = 0 ↔ (∀ a ∈ allK, isMoney (sumA (l ++ m) a) = true) ∧ ∀ a ∈ allK, floorB a ≤ sumA (l ++ m) a := by
  unfold addE
  by_cases h1 : allK.all (fun a => isMoney (sumA (l ++ m) a)) = true
  · rw [if_pos h1]
    rw [List.all_eq_true] at h1
    by_cases h2 : allK.all (fun a => decide (floorB a ≤ sumA (l ++ m) a)) = true
    · rw [if_pos h2]
      rw [List.all_eq_true] at h2
      exact ⟨fun _ => ⟨h1, fun a ha => by simpa using h2 a ha⟩, fun _ => rfl⟩
    · rw [if_neg h2]
      rw [List.all_eq_true] at h2
      exact ⟨fun h => (by cases h), fun h => absurd (fun a ha => by simpa using h.2 a ha) h2⟩
  · rw [if_neg h1]
    rw [List.all_eq_true] at h1
    exact ⟨fun h => (by cases h), fun h => absurd h.1 h1⟩
theorem postE_zero {last : Int} {l : List Lg} {id : Int} {m : List Lg} : postE last l id m = 0 ↔ ledgerB last l = true ∧ 1 ≤ id ∧ id ≤ 1099511627776 ∧ last < id ∧ checkE m = 0 ∧ addE l m = 0 := by
  unfold postE
  by_cases h1 : ledgerB last l = true
  · rw [if_pos h1]
    by_cases h2 : id < 1 ∨ 1099511627776 < id
    · rw [if_pos h2]
      exact ⟨fun h => (by cases h), fun h => (by omega)⟩
    · rw [if_neg h2]
      by_cases h3 : id ≤ last
      · rw [if_pos h3]
        exact ⟨fun h => (by cases h), fun h => (by omega)⟩
      · rw [if_neg h3]
        by_cases h4 : checkE m = 0
        · rw [if_pos h4]
          exact ⟨fun h => ⟨h1, by omega, by omega, by omega, h4, h⟩, fun h => h.2.2.2.2.2⟩
        · rw [if_neg h4]
          exact ⟨fun h => absurd h h4, fun h => absurd h.2.2.2.2.1 h4⟩
  · rw [if_neg h1]
    exact ⟨fun h => (by cases h), fun h => absurd h.1 h1⟩
/-- What is posted leaves a right ledger, and each account has what it had and what was added. -/
theorem posted {last : Int} {l : List Lg} {id : Int} {m : List Lg} (h : postE last l id m = 0) :
    postN last l id m = id ∧ ledgerB id (postL last l id m) = true ∧ mayL m = true ∧ mayL l = true ∧ ∀ a, sumA (postL last l id m) a = sumA l a + sumA m a := by
  have e1 : postL last l id m = joinF (sumA (l ++ m)) 108 := by unfold postL; rw [if_pos h]
  have e2 : postN last l id m = id := by unfold postN; rw [if_pos h]
  rw [e1]
  obtain ⟨hl, i1, i2, i3, hc, ha⟩ := postE_zero.1 h
  obtain ⟨h0, hr, he⟩ := ledger_parts hl
  obtain ⟨a1, a2⟩ := addE_zero.1 ha
  obtain ⟨_, _, hm, hme⟩ := check_zero.1 hc
  have hml := rightB_may hr
  have hmm : mayL (l ++ m) = true := by rw [may_append, hml, hm]; rfl
  have hR := joinF_right a1 a2
  have hS := joinF_sum hmm
  refine ⟨e2, ?_, hm, hml, fun a => by rw [hS, sumA_append]⟩
  unfold ledgerB
  simp only [Bool.and_eq_true, decide_eq_true_eq]
  exact ⟨⟨by omega, hR⟩, by rw [even_congr (rightB_may hR) hmm hS]; exact even_append l m he hme⟩
/-- Right ledgers of the same sums have the same balances. -/
theorem right_ext {l m : List Lg} (h1 : rightB l = true) (h2 : rightB m = true) (h : ∀ a, sumA l a = sumA m a) : l = m := by
  rw [← right_self h1, ← right_self h2, show sumA l = sumA m from funext h]

/-! ### totals -/
def inK (cur : Int) (kinds : List Int) (x : Lg) : Bool := decide (x.1.2.2 = cur) && kinds.contains x.1.1
def sumK (l : List Lg) (cur : Int) (kinds : List Int) : Int := ((l.filter (inK cur kinds)).map (·.2)).sum
theorem sumK_all (l : List Lg) (cur : Int) (kinds : List Int) (hm : mayL l = true) (h : ∀ k : Int, 1 ≤ k → k ≤ 6 → k ∈ kinds) : (l.filter (inK cur kinds)) = l.filter fun x => decide (x.1.2.2 = cur) := by
  refine List.filter_congr fun x hx => ?_
  have h1 := List.all_eq_true.1 hm x hx
  have h2 := (okL_parts h1).1
  unfold rightA at h2
  simp only [Bool.and_eq_true, decide_eq_true_eq] at h2
  unfold inK
  rw [show kinds.contains x.1.1 = true by rw [List.contains_iff_mem]; exact h _ h2.1.1.1 h2.1.1.2, Bool.and_true]
end Go.Proofs.Ytafglljfgoeapaa.NumK
