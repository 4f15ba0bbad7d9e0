/- Ledgers: the mathematics. -/
import Derived.Test.YtckdbbjeifindaaRG15
import Derived.Test.YtckdbbjeifindaaRG6
import Derived.Test.YtckdbbjeifindaaRG14
import Derived.Test.YtckdbbjeifindaaRG4
import Derived.Laws.StructEq
import Derived.Test.YtckdbbjeifindaaRG2
import Derived.Test.YtckdbbjeifindaaRG5
import Derived.Deep.CutBlock
import Derived.Shelf.Abstract
namespace Go.Proofs.Ytckdbbjeifindaa.NumK
open Go.RowKit

def lessB (a b : Ac) : Bool := lessA a.1 a.2.1 a.2.2 b.1 b.2.1 b.2.2
def floorB (a : Ac) : Int := floorA a.1 a.2.1 a.2.2
def okB (x : Lg) : Bool := okL x && decide (x.2 ≠ 0) && decide (floorB x.1 ≤ x.2)
def stepB (l : List Lg) (i : Nat) : Bool := okB (l.getD i lg0) && (decide (i = 0) || lessB (l.getD (i - 1) lg0).1 (l.getD i lg0).1)
/-- The balances rise, and each may be what it is. -/
def rightLg (l : List Lg) : Bool := (List.range l.length).all (stepB l)
def ledgerB (last : Int) (l : List Lg) : Bool := decide (0 ≤ last) && rightLg l && evenL l

theorem rightLg_iff (l : List Lg) : rightLg l = true ↔ ∀ i, i < l.length → stepB l i = true := by
  unfold rightLg
  rw [List.all_eq_true]
  exact ⟨fun h i hi => h i (List.mem_range.2 hi), fun h i hi => h i (List.mem_range.1 hi)⟩
theorem rightB_no (l : List Lg) (i : Nat) (hi : i < l.length) (h : stepB l i = false) : rightLg l = false := by
  rw [← Bool.not_eq_true, rightLg_iff]
  intro hh
  have := hh i hi
  rw [h] at this; cases this

/-! ### the order -/
theorem lessB_iff (a b : Ac) : lessB a b = true ↔ a.1 < b.1 ∨ (a.1 = b.1 ∧ (a.2.1 < b.2.1 ∨ (a.2.1 = b.2.1 ∧ a.2.2 < b.2.2))) := by
  unfold lessB lessA
  split
  · split
    · simp; omega
    · simp; omega
  · simp; omega
theorem lessB_irrefl (a : Ac) : lessB a a = false := by
  rw [← Bool.not_eq_true, lessB_iff]; omega
theorem lessB_trans {a b c : Ac} (h : lessB a b = true) (k : lessB b c = true) : lessB a c = true := by
  rw [lessB_iff] at *; omega
theorem lessB_ne {a b : Ac} (h : lessB a b = true) : a ≠ b := by
  rintro rfl; rw [lessB_irrefl] at h; cases h
def RiseLg (l : List Lg) : Prop := l.Pairwise fun x y => lessB x.1 y.1 = true
theorem rise_of_step (l : List Lg) (h : ∀ i, i < l.length → 0 < i → lessB (l.getD (i - 1) lg0).1 (l.getD i lg0).1 = true) : RiseLg l := by
  have key : ∀ j i, i < j → j < l.length → lessB (l.getD i lg0).1 (l.getD j lg0).1 = true := by
    intro j
    induction j with
    | zero => intro i hi; omega
    | succ j ih =>
      intro i hi hj
      have h1 := h (j + 1) hj (by omega)
      rw [show j + 1 - 1 = j by omega] at h1
      by_cases e : i = j
      · subst e; exact h1
      · exact lessB_trans (ih i (by omega) (by omega)) h1
  unfold RiseLg
  rw [List.pairwise_iff_getElem]
  intro i j hi hj hij
  have := key j i hij hj
  simpa [List.getD, hi, hj] using this
theorem rightB_parts {l : List Lg} (h : rightLg l = true) : (∀ x ∈ l, okB x = true) ∧ RiseLg l := by
  rw [rightLg_iff] at h
  constructor
  · intro x hx
    obtain ⟨i, hi, rfl⟩ := List.getElem_of_mem hx
    have := h i hi
    unfold stepB at this
    rw [Bool.and_eq_true] at this
    rw [show l.getD i lg0 = l[i] by simp [List.getD, hi]] at this
    exact this.1
  · refine rise_of_step l fun i hi h0 => ?_
    have := h i hi
    unfold stepB at this
    rw [Bool.and_eq_true, Bool.or_eq_true] at this
    rcases this.2 with h1 | h1
    · simp at h1; omega
    · exact h1
theorem okB_parts {x : Lg} (h : okB x = true) : okL x = true ∧ x.2 ≠ 0 ∧ floorB x.1 ≤ x.2 := by
  unfold okB at h
  simp only [Bool.and_eq_true, decide_eq_true_eq] at h
  exact ⟨h.1.1, h.1.2, h.2⟩
theorem rightB_may {l : List Lg} (h : rightLg l = true) : mayL l = true := by
  unfold mayL
  rw [List.all_eq_true]
  exact fun x hx => (okB_parts ((rightB_parts h).1 x hx)).1

/-! ### what an account has -/
def ofL (l : List Lg) (a : Ac) : Int := match l with | [] => 0 | x :: l => if x.1 = a then x.2 else ofL l a
theorem ofL_cons (x : Lg) (l : List Lg) (a : Ac) : ofL (x :: l) a = if x.1 = a then x.2 else ofL l a := rfl
theorem ofL_drop (l : List Lg) (a : Ac) (k : Nat) (h : ∀ i, i < k → i < l.length → (l.getD i lg0).1 ≠ a) : ofL l a = ofL (l.drop k) a := by
  induction k with
  | zero => rfl
  | succ k ih =>
    rw [ih fun i hi hl => h i (by omega) hl]
    rcases Nat.lt_or_ge k l.length with c | c
    · rw [List.drop_eq_getElem_cons c, ofL_cons, if_neg]
      have := h k (by omega) c
      rwa [show l.getD k lg0 = l[k] by simp [List.getD, c]] at this
    · rw [List.drop_of_length_le c, List.drop_of_length_le (by omega)]
theorem ofL_found (l : List Lg) (a : Ac) (k : Nat) (hk : k < l.length) (h : ∀ i, i < k → (l.getD i lg0).1 ≠ a) (e : (l.getD k lg0).1 = a) : ofL l a = (l.getD k lg0).2 := by
  rw [ofL_drop l a k fun i hi _ => h i hi, List.drop_eq_getElem_cons hk, ofL_cons]
  rw [show l.getD k lg0 = l[k] by simp [List.getD, hk]] at *
  rw [if_pos e]
theorem ofL_none (l : List Lg) (a : Ac) (h : ∀ i, i < l.length → (l.getD i lg0).1 ≠ a) : ofL l a = 0 := by
  rw [ofL_drop l a l.length fun i hi _ => h i hi, List.drop_length]; rfl
theorem sumA_none (l : List Lg) (a : Ac) (h : ∀ x ∈ l, x.1 ≠ a) : sumA l a = 0 := by
  induction l with
  | nil => rfl
  | cons x l ih => rw [sumA_cons, if_neg (h x (by simp)), ih fun y hy => h y (by simp [hy])]; rfl
theorem ofL_sum {l : List Lg} (h : RiseLg l) (a : Ac) : ofL l a = sumA l a := by
  induction l with
  | nil => rfl
  | cons x l ih =>
    have h := List.pairwise_cons.1 h
    rw [ofL_cons, sumA_cons]
    split
    · rename_i e
      rw [sumA_none l a]
      · omega
      · intro y hy e2
        have := h.1 y hy
        rw [e, e2, lessB_irrefl] at this; cases this
    · rw [ih h.2]; omega
theorem ofL_mem {l : List Lg} (h : RiseLg l) (x : Lg) (hx : x ∈ l) : sumA l x.1 = x.2 := by
  rw [← ofL_sum h]
  induction l with
  | nil => cases hx
  | cons y l ih =>
    have h := List.pairwise_cons.1 h
    rw [ofL_cons]
    rcases List.mem_cons.1 hx with rfl | hx
    · rw [if_pos rfl]
    · rw [if_neg (lessB_ne (h.1 x hx)), ih h.2 hx]
theorem sumA_money {l : List Lg} (h : rightLg l = true) (a : Ac) : isMoney (sumA l a) = true ∧ (a ∈ allK → floorB a ≤ sumA l a) := by
  obtain ⟨h1, h2⟩ := rightB_parts h
  by_cases c : ∃ x ∈ l, x.1 = a
  · obtain ⟨x, hx, rfl⟩ := c
    rw [ofL_mem h2 x hx]
    obtain ⟨k1, _, k3⟩ := okB_parts (h1 x hx)
    exact ⟨by rw [isMoney_iff]; exact (okL_parts k1).2, fun _ => k3⟩
  · rw [sumA_none l a fun x hx e => c ⟨x, hx, e⟩]
    refine ⟨by decide, fun _ => ?_⟩
    unfold floorB floorA
    split <;> omega

/-! ### postings -/
def addLgE (l m : List Lg) : Int :=
  if allK.all (fun a => isMoney (sumA (l ++ m) a)) then (if allK.all (fun a => decide (floorB a ≤ sumA (l ++ m) a)) then 0 else 13) else 1
def postE (last : Int) (l : List Lg) (id : Int) (m : List Lg) : Int :=
  if ledgerB last l then (if id < 1 ∨ 1099511627776 < id then 3 else if id ≤ last then 18 else if checkE m = 0 then addLgE l m else checkE m) else 14
def postL (last : Int) (l : List Lg) (id : Int) (m : List Lg) : List Lg := if postE last l id m = 0 then joinF (sumA (l ++ m)) 108 else []
def postN (last : Int) (l : List Lg) (id : Int) (m : List Lg) : Int := if postE last l id m = 0 then id else 0

/-! ### totals -/
def inK (cur : Int) (kinds : List Int) (x : Lg) : Bool := decide (x.1.2.2 = cur) && kinds.contains x.1.1
def sumK (l : List Lg) (cur : Int) (kinds : List Int) : Int := ((l.filter (inK cur kinds)).map (·.2)).sum
end Go.Proofs.Ytckdbbjeifindaa.NumK
namespace Go.Proofs.Ytckdbbjeifindaa.NumK
open Go.RowKit

theorem rowI_one (w : World) (n : Int) (t : TypeId) (N : Nat) (hN : w.heap.size = N) : RowE enInt (w.alloc (.cells #[.int .i64 n] t)) (some ⟨N, 0, none⟩) 1 [n] := by
  subst hN
  refine ⟨rfl, fun _ => ⟨_, _, rfl, by simp, fun j hj => ⟨_, rfl, fun i hi => ?_⟩⟩⟩
  have hi : i < 1 := hi
  have hj : j < 1 := hj
  match j, hj, i, hi with
  | 0, _, 0, _ => exact (World.cell?_alloc_at _ _ _ _ rfl).trans rfl

/-- The amounts of the legs of which p holds. -/
def amts (p : Lg → Bool) (l : List Lg) : List Int := (l.filter p).map (·.2)
theorem amts_snoc (p : Lg → Bool) (l : List Lg) (j : Nat) (h : j < l.length) : amts p (l.take (j + 1)) = amts p (l.take j) ++ if p (l.getD j lg0) then [(l.getD j lg0).2] else [] := by
  unfold amts
  rw [take_snoc l j lg0 h, List.filter_append, List.map_append]
  congr 1
  generalize l.getD j lg0 = x
  cases h : p x
  · simp [h]
  · simp [h]
theorem amts_len (p : Lg → Bool) (l : List Lg) : (amts p l).length ≤ l.length := by
  unfold amts; rw [List.length_map]; exact List.length_filter_le _ _
theorem amts_C (l : List Lg) (c : Int) : (amts (fun x => decide (x.1.2.2 = c)) l).sum = sumC l c := rfl
end Go.Proofs.Ytckdbbjeifindaa.NumK
namespace Go.Proofs.Ytckdbbjeifindaa.NumK
open Go.RowKit

end Go.Proofs.Ytckdbbjeifindaa.NumK
namespace Go.Proofs.Ytckdbbjeifindaa.NumK
open Go.RowKit

def ldV (last : Int) (A : Option Addr) (n c : Nat) : Value := .agg #[.int .i64 last, .slice A n c]
theorem run_equalAc (w : World) (a b c d e f : Int) (E : Bool) (h : E = sameA a b c d e f) :
    (Op.equalIn 10000 84 (.agg #[.int .i64 a, .int .i64 b, .int .i64 c]) (.agg #[.int .i64 d, .int .i64 e, .int .i64 f])).run Try.prog w = .ok E w := by
  subst h
  rw [run_equalIn_struct w 9999 _ _ _ (by kernel_rfl) (by kernel_rfl)]
  go_simp
  unfold sameA
  repeat' split
  all_goals simp_all

set_option maxRecDepth 100000 in
theorem lof_any (last : Int) (A : Option Addr) (n c : Nat) (l : List Lg) (k m r : Int) (w : World) (h : RowE enLg w A n l) (hn : n ≤ 1000000) :
    Calls Try.prog 35 #[ldV last A n c, acV k m r] w fun e w' => e = .returned (.int .i64 (ofL l (k, m, r))) ∧ Grew w w' := by
  have HI := Lib.hid h
  have HL := Lib.hid h.len
  have HF := Lib.hid (ofL_found l (k, m, r))
  have HNo := Lib.hid (ofL_none l (k, m, r))
  generalize ofL l (k, m, r) = R at *
  clear h
  unfold ldV acV
  go_enter Try.func35, Try.ntmps35
  go_wp2
  go_loopw [10] (fun v wr => ∃ j : Nat, v = .int .i64 j ∧ j ≤ n ∧ Hid (∀ i, i < j → (l.getD i lg0).1 ≠ (k, m, r)) ∧ Hid (Grew ((w.alloc (.cells #[.int .i64 last, .slice A n c] 55)).alloc (.cells #[.int .i64 k, .int .i64 m, .int .i64 r] 84)) wr)) (fun v _ => n - (intOf v).toNat)
  case atStart => exact ⟨0, rfl, by omega, (by intro i hi; omega), grew_refl _⟩
  case round =>
    obtain ⟨j, rfl, hj, HK, HG⟩ := hrel
    obtain ⟨t1, t2, hg0⟩ := two_cells HG.out
    have HG0 := Lib.hid hg0
    have q0 : wr.cell? ⟨w.heap.size + 1, 0, none⟩ = some (.int .i64 k) := t2 0
    have q1 : wr.cell? ⟨w.heap.size + 1, 1, none⟩ = some (.int .i64 m) := t2 1
    have q2 : wr.cell? ⟨w.heap.size + 1, 2, none⟩ = some (.int .i64 r) := t2 2
    have hQ : w.heap.size + 1 < wr.heap.size := by have := HG.out.size; simp at this; omega
    clear t1 t2 hg0
    by_cases hlt : j < n
    · obtain ⟨b, o, rfl, hb, a1, a2, a3, a4⟩ := (HI.out.keep HG0.out).lg hlt
      have hjl : j < l.length := by rw [HL.out]; exact hlt
      have HF1 := Lib.hid (HF.out j hjl HK.out)
      have HK1 : Hid ((l.getD j lg0).1 ≠ (k, m, r) → ∀ i, i < j + 1 → (l.getD i lg0).1 ≠ (k, m, r)) := fun h i hi => by
        rcases Nat.lt_or_ge i j with h1 | h1
        · exact HK.out i h1
        · obtain rfl : i = j := by omega
          exact h
      have hE := fun w => run_equalAc w (l.getD j lg0).1.1 (l.getD j lg0).1.2.1 (l.getD j lg0).1.2.2 k m r _ rfl
      rw [sameA_iff (l.getD j lg0).1 (k, m, r)] at hE
      have i0 : (0 : Int) ≤ (j : Int) := by omega
      have i1 : (j : Int) < (n : Int) := by omega
      clear hb
      generalize l.getD j lg0 = x at *
      by_cases hx : x.1 = (k, m, r)
      · rw [decide_eq_true hx] at hE
        have HR := Lib.hid (HF1.out hx)
        clear hx HF1 HK1
        go_wp2
        go_ret
        exact ⟨ret_i HR.out.symm, grew_trans HG0.out (grew_alloc _ _ _)⟩
      · rw [decide_eq_false hx] at hE
        have HK2 := Lib.hid (HK1.out hx)
        clear hx HF1 HK1
        go_wp2
        go_roundw
        case rel => exact ⟨j + 1, by go_num, by omega, HK2.out, grew_trans HG.out (grew_alloc _ _ _)⟩
        case measure => simp only [intOf]; omega
    · obtain rfl : j = n := by omega
      have HR := Lib.hid (HNo.out (fun i hi => HK.out i (by rw [HL.out] at hi; exact hi)))
      go_wp2
      go_ret
      exact ⟨ret_i HR.out.symm, HG0.out⟩

end Go.Proofs.Ytckdbbjeifindaa.NumK
namespace Go.Proofs.Ytckdbbjeifindaa.NumK
open Go.RowKit

end Go.Proofs.Ytckdbbjeifindaa.NumK
namespace Go.Proofs.Ytckdbbjeifindaa.NumK
open Go.RowKit

/-- What is asked of a test of balances: in every world that has grown it answers p. -/
structure CntOK (g : Nat) (cb : Array Value) (p : Lg → Bool) (w0 : World) : Prop where
  call : ∀ w, Grew w0 w → ∀ x : Lg, Calls Try.prog g (#[legV x.1.1 x.1.2.1 x.1.2.2 x.2] ++ cb) w fun e w' => e = .returned (.bool (p x)) ∧ Grew w w'

set_option maxRecDepth 100000 in
set_option maxHeartbeats 1000000 in
theorem btotal_any (g : Nat) (cb : Array Value) (p : Lg → Bool) (A : Option Addr) (n c : Nat) (l : List Lg) (w : World) (eg : ∀ args w, (callFunc g args).run Try.prog w = .ok (.enter g args) w)
    (hC : CntOK g cb p w) (h : RowE enLg w A n l) (hn : n ≤ 90000) :
    Calls Try.prog 74 #[.slice A n c, .func (.func g) #[] cb] w fun e w' => e = .returned (.tuple #[.int .i64 (sumV (amts p l)), .int .i64 (sumE (amts p l))]) ∧ Grew w w' := by
  have HI := Lib.hid h
  have HC := Lib.hid hC
  have HL := Lib.hid h.len
  clear h hC
  go_enter Try.func74, Try.ntmps74
  go_wp2
  go_loopw [6, 11] (fun v6 v11 wr => ∃ j : Nat, v11 = .int .i64 j ∧ j ≤ n ∧ Hid (OwnE enInt wr w.heap.size 3 v6 (amts p (l.take j))) ∧ Hid (Grew w wr)) (fun _ v11 _ => n - (intOf v11).toNat)
  case atStart => exact ⟨0, rfl, by omega, OwnE.nil enInt _ _ _, grew_refl _⟩
  case round =>
    obtain ⟨j, rfl, hj, HO, HG⟩ := hrel
    by_cases hlt : j < n
    · have hjl : j < l.length := by rw [HL.out]; exact hlt
      obtain ⟨b, o, rfl, hb, a1, a2, a3, a4⟩ := (HI.out.keep HG.out).lg hlt
      have HA := Lib.hid (amts_snoc p l j hjl)
      have HAL : Hid ((amts p (l.take j)).length ≤ 90000) := by show _ ≤ _; have := amts_len p (l.take j); rw [List.length_take] at this; omega
      have CC := fun w1 (hg : Grew w w1) => HC.out.call w1 hg (l.getD j lg0)
      have i1 : (j : Int) < (n : Int) := by omega
      have i0 : (0 : Int) ≤ (j : Int) := by omega
      have HSZ : Hid (w.heap.size ≤ wr.heap.size) := HG.out.size
      clear hb
      generalize l.getD j lg0 = x at *
      unfold legV at CC
      by_cases hp : p x = true
      · have HA1 : Hid (amts p (l.take (j + 1)) = amts p (l.take j) ++ [x.2]) := by show _ = _; rw [HA.out, if_pos hp]
        rw [hp] at CC
        clear HA hp
        generalize x.1.1 = q1 at *
        generalize x.1.2.1 = q2 at *
        generalize x.1.2.2 = q3 at *
        generalize x.2 = q4 at *
        go_wp2_with (first
          | ((with_reducible refine (CC _ (grew_trans HG.out (grew_alloc _ _ _))).mono ?_); rintro e w5 ⟨rfl, hg⟩; have d3 : w5.cell? ⟨wr.heap.size, 3, none⟩ = some (.int .i64 q4) := own_cell hg 3; have HG5 := Lib.hid (own_back hg); clear hg)
          | (at_builtin; refine (wpList_append_E rfl _ _ 85 3 (.int .i64 0) 8 rfl Try.underlying85 info_int1 rfl w.heap.size _ _ rfl ((HO.out.keep HG5.out).keep (grew_alloc _ _ _)) _ 1 1 [q4] rfl (by intro h; cases h) (rowI_one _ _ _ _ rfl) (by have := HAL.out; unfold maxLen; omega) (by have := HAL.out; omega) (Nat.le_trans (Nat.le_trans HSZ.out HG5.out.size) (grew_alloc w5 _ _).size) ?_); intro v6 w6 hv hb6; rw [← HA1.out] at hv; have HV6 := Lib.hid hv; have HG6 : Hid (Grew w w6) := Below.trans (grew_trans HG.out (grew_trans HG5.out (grew_alloc _ _ _))) hb6; clear hv hb6))
        go_roundw
        case rel => exact ⟨j + 1, by go_num, by omega, HV6.out, HG6.out⟩
        case measure => simp only [intOf]; omega
      · have HA1 : Hid (amts p (l.take (j + 1)) = amts p (l.take j)) := by show _ = _; rw [HA.out, if_neg hp, List.append_nil]
        rw [← HA1.out] at HO
        rw [Bool.not_eq_true] at hp
        rw [hp] at CC
        clear HA hp HA1
        generalize x.1.1 = q1 at *
        generalize x.1.2.1 = q2 at *
        generalize x.1.2.2 = q3 at *
        generalize x.2 = q4 at *
        go_wp2_with ((with_reducible refine (CC _ (grew_trans HG.out (grew_alloc _ _ _))).mono ?_); rintro e w5 ⟨rfl, hg⟩; have HG5 := Lib.hid (own_back hg); clear hg)
        go_roundw
        case rel => exact ⟨j + 1, by go_num, by omega, HO.out.keep HG5.out, grew_trans HG.out HG5.out⟩
        case measure => simp only [intOf]; omega
    · obtain rfl : j = n := by omega
      rw [List.take_of_length_le (by rw [HL.out]; exact Nat.le_refl _)] at HO
      obtain ⟨A3, c3, rfl, hr3, _⟩ := HO.out.form
      have CS := sum_any A3 _ c3 _ wr (ints_of_E hr3) (Nat.le_trans (amts_len _ l) (by rw [HL.out]; omega))
      clear hr3 HO
      generalize (amts p l).length = N3 at *
      go_wp2_with (go_at_call 37; ((with_reducible refine CS.mono ?_); rintro e w7 ⟨rfl, hg⟩; have HG7 := Lib.hid (grew_trans HG.out hg); clear hg CS))
      go_ret2
      exact ⟨rfl, HG7.out⟩
end Go.Proofs.Ytckdbbjeifindaa.NumK
namespace Go.Proofs.Ytckdbbjeifindaa.NumK
open Go.RowKit

theorem evenP (cur : Int) (b : Nat) (w : World) (hb : w.cell? ⟨b, 0, none⟩ = some (.int .i64 cur)) (hl : b < w.heap.size) :
    CntOK 75 #[.pointer (some ⟨b, 0, none⟩)] (fun x => decide (x.1.2.2 = cur)) w := by
  refine ⟨fun w1 hg x => ?_⟩
  have hc : w1.cell? ⟨b, 0, none⟩ = some (.int .i64 cur) := (grew_cell hg (p := ⟨b, 0, none⟩) hl).trans hb
  have hl1 : b < w1.heap.size := Nat.lt_of_lt_of_le hl hg.size
  clear hg hb hl
  unfold legV
  show Calls Try.prog _ #[.agg #[.int .i64 x.1.1, .int .i64 x.1.2.1, .int .i64 x.1.2.2, .int .i64 x.2], .pointer (some ⟨b, 0, none⟩)] w1 _
  generalize x.1.1 = q1
  generalize x.1.2.1 = q2
  generalize x.1.2.2 = q3
  generalize x.2 = q4
  go_enter Try.func75, Try.ntmps75
  go_wp2
  go_ret
  exact ⟨ret_b (by rw [Bool.eq_iff_iff]; simp), grew_alloc _ _ _⟩

theorem amts_money (p : Lg → Bool) (l : List Lg) (hm : mayL l = true) : (amts p l).all isMoney = true := by
  rw [List.all_eq_true]
  intro z hz
  unfold amts at hz
  obtain ⟨x, hx, rfl⟩ := List.mem_map.1 hz
  have h1 := (List.all_eq_true.1 hm) x (List.mem_filter.1 hx).1
  rw [isMoney_iff]; exact (okL_parts h1).2
theorem sums_zero (s : Int) : (capV s = 0 ∧ capE s = 0) ↔ s = 0 := by
  constructor
  · rintro ⟨h1, h2⟩
    by_cases h : isMoney s = true
    · rw [capV_in h] at h1; exact h1
    · rw [Bool.not_eq_true] at h; rw [capE_out h] at h2; cases h2
  · rintro rfl; exact ⟨by decide, by decide⟩

set_option maxRecDepth 100000 in
theorem leven_any (A : Option Addr) (n c : Nat) (l : List Lg) (w : World) (h : RowE enLg w A n l) (hm : mayL l = true) (hn : n ≤ 90000) :
    Calls Try.prog 61 #[.slice A n c] w fun e w' => e = .returned (.bool (evenL l)) ∧ Grew w w' := by
  have HI := Lib.hid h
  have HM := Lib.hid hm
  have HEV : Hid ((∀ q : Nat, q < 3 → sumC l q = 0) → evenL l = true) := fun h => by
    unfold evenL; rw [show sumC l 0 = 0 from h 0 (by omega), show sumC l 1 = 0 from h 1 (by omega), show sumC l 2 = 0 from h 2 (by omega)]; rfl
  have HNE : Hid (∀ q : Nat, q < 3 → ¬ sumC l q = 0 → evenL l = false) := fun q hq h => by
    rw [Bool.eq_false_iff]
    unfold evenL
    have : q = 0 ∨ q = 1 ∨ q = 2 := by omega
    rcases this with rfl | rfl | rfl
    · simp only [ne_eq, Bool.and_eq_true, decide_eq_true_eq]; exact fun hh => h hh.1.1
    · simp only [ne_eq, Bool.and_eq_true, decide_eq_true_eq]; exact fun hh => h hh.1.2
    · simp only [ne_eq, Bool.and_eq_true, decide_eq_true_eq]; exact fun hh => h hh.2
  generalize evenL l = R at *
  clear h hm
  have eg := enters_of Try.func75 (by kernel_rfl) rfl
  go_enter Try.func61, Try.ntmps61
  go_wp2
  go_loopw [6] (fun v wr => ∃ q : Nat, v = .int .i64 q ∧ q ≤ 3 ∧ Hid (∀ i : Nat, i < q → sumC l i = 0) ∧ Hid (Grew w wr)) (fun v _ => 3 - (intOf v).toNat)
  case atStart => exact ⟨0, rfl, by omega, (by intro i hi; omega), grew_refl _⟩
  case round =>
    obtain ⟨q, rfl, hq, HQ, HG⟩ := hrel
    by_cases hq3 : q < 3
    · have i9 : (q : Int) < 3 := by omega
      have CT : ∀ N, N = wr.heap.size → Calls Try.prog 74 #[.slice A n c, .func (.func 75) #[] #[.pointer (some ⟨N, 0, none⟩)]] (wr.alloc (.cells #[.int .i64 q] 3)) fun e w' => e = .returned (.tuple #[.int .i64 (capV (sumC l q)), .int .i64 (capE (sumC l q))]) ∧ Grew wr w' := by
        rintro N rfl
        refine (btotal_any _ _ _ A n c l _ eg (evenP q wr.heap.size (wr.alloc (.cells #[.int .i64 q] 3)) (by simp) (by simp)) ((HI.out.keep HG.out).keep (grew_alloc _ _ _)) hn).mono ?_
        rintro e w' ⟨rfl, hg⟩
        have hs := amts_money (fun x => decide (x.1.2.2 = (q : Int))) l HM.out
        rw [sumV_in hs, sumE_in hs, amts_C]
        exact ⟨rfl, own_back hg⟩
      have HNE1 := Lib.hid (HNE.out q hq3)
      have HQ1 : Hid (sumC l q = 0 → ∀ i : Nat, i < q + 1 → sumC l i = 0) := fun h i hi => by
        rcases Nat.lt_or_ge i q with h1 | h1
        · exact HQ.out i h1
        · obtain rfl : i = q := by omega
          exact h
      have HZ := Lib.hid (sums_zero (sumC l q))
      clear eg
      generalize sumC l (q : Int) = s at *
      generalize hv : capV s = v at *
      generalize he : capE s = e at *
      clear hv he
      by_cases hs : s = 0
      · have HQ2 := Lib.hid (HQ1.out hs)
        obtain ⟨rfl, rfl⟩ := HZ.out.2 hs
        clear HQ1 HNE1 HZ hs
        go_wp2_with (go_at_call 74; ((with_reducible refine (CT _ rfl).mono ?_); rintro e w7 ⟨rfl, hg⟩; have HG7 := Lib.hid (grew_trans HG.out hg); clear hg CT))
        go_roundw
        case rel => exact ⟨q + 1, by go_num, by omega, HQ2.out, HG7.out⟩
        case measure => simp only [intOf]; omega
      · have HR := Lib.hid (HNE1.out hs)
        have hz : ¬ (v = 0 ∧ e = 0) := fun hh => hs (HZ.out.1 hh)
        clear HQ1 HNE1 HZ hs
        by_cases hv0 : v = 0
        · subst hv0
          have d1 : (e != 0) = true := by simpa using hz
          clear hz
          go_wp2_with (go_at_call 74; ((with_reducible refine (CT _ rfl).mono ?_); rintro e w7 ⟨rfl, hg⟩; have HG7 := Lib.hid (grew_trans HG.out hg); clear hg CT))
          go_ret
          exact ⟨ret_b HR.out.symm, HG7.out⟩
        · have d1 : (v != 0) = true := by simpa using hv0
          clear hz
          go_wp2_with (go_at_call 74; ((with_reducible refine (CT _ rfl).mono ?_); rintro e w7 ⟨rfl, hg⟩; have HG7 := Lib.hid (grew_trans HG.out hg); clear hg CT))
          go_ret
          exact ⟨ret_b HR.out.symm, HG7.out⟩
    · obtain rfl : q = 3 := by omega
      have HR0 := Lib.hid (HEV.out HQ.out)
      go_wp2
      go_ret
      exact ⟨ret_b HR0.out.symm, HG.out⟩
end Go.Proofs.Ytckdbbjeifindaa.NumK
