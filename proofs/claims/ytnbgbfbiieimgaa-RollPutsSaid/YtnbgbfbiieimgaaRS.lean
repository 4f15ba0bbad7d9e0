/- Whatever is done, a roll stays right. -/
import Derived.Test.YtnbgbfbiieimgaaRR
import Derived.Test.YtnbgbfbiieimgaaRG
import Derived.Deep.CutBlock
import Derived.Deep.RegionHeld3
import Derived.Test.YtnbgbfbiieimgaaRH
import Derived.Test.YtnbgbfbiieimgaaRQ
namespace Go.Proofs.Ytnbgbfbiieimgaa.NumK
open Go.RowKit
set_option linter.unusedVariables false

/-- No list of a has more than that of b. -/
def LeR (a b : Rl) : Prop := a.1.length ≤ b.1.length ∧ a.2.1.length ≤ b.2.1.length ∧ a.2.2.length ≤ b.2.2.length
theorem right_mk {r : Rl} (h1 : rightL okMb noMb mb0 r.1 = true) (h2 : rightL okIn noIn in0 r.2.1 = true) (h3 : rightL okAs noAs as0 r.2.2 = true) : rightR r = true := right_yes h1 h2 h3
theorem put_len_ge {α : Type} {no : α → Int} {d : α} {l : List α} (h : Rise no l) (x : α) : l.length ≤ (putL no l x).length := by
  cases hh : hasL no l (no x) with
  | true => rw [put_len_has (d := d) h x hh]; exact Nat.le_refl _
  | false => rw [put_len_new x hh]; exact Nat.le_succ _
theorem okIn_set {x : In} {p : Int} (h : okIn x = true) (hp : wi p 1 1073741824 = true) : okIn (setIn x p) = true := by
  unfold okIn okIn6 setIn at *
  simp only [Bool.and_eq_true] at *
  obtain ⟨hs, ⟨⟨⟨⟨h1, h2⟩, h3⟩, h4⟩, h5⟩, h6⟩ := h
  refine ⟨hs, ⟨⟨⟨⟨h1, h2⟩, h3⟩, h4⟩, ?_⟩, h6⟩
  unfold wi at *; simp only [Bool.and_eq_true, decide_eq_true_eq] at *; omega
theorem okIn_turn {x : In} (h : okIn x = true) : okIn (turnIn x) = true := by
  unfold turnIn
  split
  · unfold okIn okIn6 at *
    simp only [Bool.and_eq_true] at *
    obtain ⟨hs, ⟨⟨⟨⟨h1, h2⟩, h3⟩, h4⟩, h5⟩, h6⟩ := h
    exact ⟨hs, ⟨⟨⟨⟨h1, h2⟩, h3⟩, h4⟩, by decide⟩, h5⟩
  · exact h
theorem no_turn (x : In) : noIn (turnIn x) = noIn x := by unfold turnIn; split <;> rfl
theorem turn_right {r : Rl} (h : rightR r = true) : rightR (turnF r) = true := by
  obtain ⟨h1, h2, h3⟩ := right_parts h
  obtain ⟨a2, b2⟩ := (rightL_iff _ _ _ _).1 h2
  refine right_mk h1 ((rightL_iff _ _ _ _).2 ⟨fun y hy => ?_, ?_⟩) h3
  · obtain ⟨x, hx, rfl⟩ := List.mem_map.1 hy
    exact okIn_turn (a2 x hx)
  · unfold Rise turnF
    rw [List.pairwise_map]
    refine List.Pairwise.imp ?_ b2
    intro x y hxy
    rw [no_turn, no_turn]; exact hxy

theorem do_right {r : Rl} (h : rightR r = true) (x : Act11) (h0 : (doP r x).2 = 0) : rightR (doP r x).1 = true ∧ LeR r (doP r x).1 := by
  obtain ⟨h1, h2, h3⟩ := right_parts h
  obtain ⟨r1, r2, r3⟩ := right_rise h
  unfold doP at *
  split at h0
  · next k =>
    rw [if_pos k]
    unfold admitP at *
    rw [if_pos h] at *
    split at h0
    · next hm =>
      rw [if_pos hm]
      split at h0
      · cases h0
      · next hh =>
        rw [if_neg hh]
        exact ⟨right_mk (right_put h1 _ hm) h2 h3, put_len_ge (d := mb0) r1 _, Nat.le_refl _, Nat.le_refl _⟩
    · cases h0
  · next k0 =>
    rw [if_neg k0]
    split at h0
    · next k =>
      rw [if_pos k]
      unfold listP at *
      rw [if_pos h] at *
      split at h0
      · next hm =>
        rw [if_pos hm]
        split at h0
        · cases h0
        · next hh =>
          rw [if_neg hh]
          exact ⟨right_mk h1 (right_put h2 _ hm) h3, Nat.le_refl _, put_len_ge (d := in0) r2 _, Nat.le_refl _⟩
      · cases h0
    · next k1 =>
      rw [if_neg k1]
      split at h0
      · next k =>
        rw [if_pos k]
        unfold holdP at *
        rw [if_pos h] at *
        split at h0
        · cases h0
        · next hm =>
          rw [if_neg hm]
          have hok : okAs x.2.2.2.2 = true := by
            unfold holdB at hm
            cases hq : okAs x.2.2.2.2
            · rw [hq] at hm; exact absurd rfl hm
            · rfl
          exact ⟨right_mk h1 h2 (right_put h3 _ hok), Nat.le_refl _, Nat.le_refl _, put_len_ge (d := as0) r3 _⟩
      · next k2 =>
        rw [if_neg k2]
        split at h0
        · next k =>
          rw [if_pos k]
          unfold tellP at *
          rw [if_pos h] at *
          split at h0
          · next hh =>
            rw [if_pos hh]
            split at h0
            · next hw =>
              rw [if_pos hw]
              have hok := ((rightL_iff _ _ _ _).1 h2).1 _ (find_mem noIn in0 r.2.1 _ hh).1
              exact ⟨right_mk h1 (right_put h2 _ (okIn_set hok hw)) h3, Nat.le_refl _, put_len_ge (d := in0) r2 _, Nat.le_refl _⟩
            · cases h0
          · cases h0
        · next k3 =>
          rw [if_neg k3]
          split at h0
          · next k =>
            rw [if_pos k]
            exact ⟨turn_right h, Nat.le_refl _, by unfold turnF; rw [List.length_map]; exact Nat.le_refl _, Nat.le_refl _⟩
          · next k4 =>
            rw [if_neg k4]
            unfold putP at *
            rw [if_pos h] at *
            split at h0
            · next hh =>
              rw [if_pos hh]
              split at h0
              · next hw =>
                rw [if_pos hw]
                exact ⟨right_mk (right_put h1 _ (by rw [okMb_state (found_ok h _ hh)]; exact hw)) h2 h3, put_len_ge (d := mb0) r1 _, Nat.le_refl _, Nat.le_refl _⟩
              · cases h0
            · cases h0
theorem do_cases (r : Rl) (x : Act11) : (doP r x).2 = 0 ∨ (doP r x).1 = rl0 := by
  unfold doP admitP listP holdP tellP putP
  repeat' split
  all_goals first
    | exact Or.inl rfl
    | exact Or.inr rfl
theorem do_err {r : Rl} (x : Act11) (h0 : (doP r x).2 ≠ 0) : (doP r x).1 = rl0 := (do_cases r x).resolve_left h0
end Go.Proofs.Ytnbgbfbiieimgaa.NumK
namespace Go.Proofs.Ytnbgbfbiieimgaa.NumK
open Go.RowKit
set_option linter.unusedVariables false

theorem rl0_right : rightR rl0 = true := by kernel_rfl
theorem Own3.put {w : World} {base b : Nat} {r : Rl} {A1 A2 A3 : Option Addr} {c1 c2 c3 : Nat} (h : Own3 w base r A1 A2 A3 c1 c2 c3) (vs : List Value) (o : Nat) (hb : b < base) : Own3 (putC w b o vs) base r A1 A2 A3 c1 c2 c3 :=
  ⟨OwnE.put hb vs o _ h.m, OwnE.put hb vs o _ h.i, OwnE.put hb vs o _ h.h⟩
section
variable {α : Type} {no : α → Int} {d : α} {l : List α}
theorem put_find (h : Rise no l) (x : α) : hasL no (putL no l x) (no x) = true ∧ findL no d (putL no l x) (no x) = x := by
  have hm : x ∈ putL no l x := (mem_put no l x x).2 (Or.inl rfl)
  have hh : hasL no (putL no l x) (no x) = true := (hasL_iff _ _ _).2 ⟨x, hm, rfl⟩
  obtain ⟨h1, h2⟩ := find_mem no d (putL no l x) (no x) hh
  exact ⟨hh, rise_one (rise_put h x) h1 hm h2⟩
theorem map_find (f : α → α) (hf : ∀ x, no (f x) = no x) (n : Int) : hasL no (l.map f) n = hasL no l n ∧ (hasL no l n = true → findL no d (l.map f) n = f (findL no d l n)) := by
  induction l with
  | nil => exact ⟨rfl, fun h => by cases h⟩
  | cons x l ih =>
    unfold hasL findL at *
    simp only [List.map_cons, List.any_cons, List.find?_cons, hf]
    refine ⟨by rw [ih.1], ?_⟩
    by_cases hx : no x = n
    · simp [hx]
    · simp only [hx, decide_false, Bool.false_or]
      exact ih.2
end
theorem turn_once (x : In) : turnIn (turnIn x) = turnIn x := by
  unfold turnIn
  split
  · exact if_neg (by simp)
  · rfl
theorem turnF_once (r : Rl) : turnF (turnF r) = turnF r := by
  unfold turnF
  simp only [List.map_map]
  congr 2
  exact List.map_congr_left fun x _ => turn_once x
theorem doP_tell (r : Rl) (no price : Int) (x : In) (y : As) : doP r (3, no, price, x, y) = tellP r no price := by
  unfold doP
  rw [if_neg (show ¬ kindA 3 = 0 by decide), if_neg (show ¬ kindA 3 = 1 by decide), if_neg (show ¬ kindA 3 = 2 by decide), if_pos (show kindA 3 = 3 by decide)]
theorem doP_put (r : Rl) (no price : Int) (x : In) (y : As) : doP r (5, no, price, x, y) = putP r no price := by
  unfold doP
  rw [if_neg (show ¬ kindA 5 = 0 by decide), if_neg (show ¬ kindA 5 = 1 by decide), if_neg (show ¬ kindA 5 = 2 by decide), if_neg (show ¬ kindA 5 = 3 by decide), if_neg (show ¬ kindA 5 = 4 by decide)]
theorem tell_right {r : Rl} (h : rightR r = true) (no price : Int) (h0 : (tellP r no price).2 = 0) : rightR (tellP r no price).1 = true := by
  have := do_right h (3, no, price, in0, as0)
  rw [doP_tell] at this
  exact (this h0).1
theorem put_right {r : Rl} (h : rightR r = true) (no price : Int) (h0 : (putP r no price).2 = 0) : rightR (putP r no price).1 = true := by
  have := do_right h (5, no, price, in0, as0)
  rw [doP_put] at this
  exact (this h0).1
theorem tell_a {r : Rl} (h : rightR r = true) {no price : Int} (hh : hasL noIn r.2.1 no = false) : tellP r no price = (rl0, 10) := by
  unfold tellP; rw [if_pos h, hh]; rfl
theorem tell_b {r : Rl} (h : rightR r = true) {no price : Int} (hh : hasL noIn r.2.1 no = true) (hw : wi price 1 1073741824 = false) : tellP r no price = (rl0, 3) := by
  unfold tellP; rw [if_pos h, if_pos hh, hw]; rfl
theorem tell_c {r : Rl} (h : rightR r = true) {no price : Int} (hh : hasL noIn r.2.1 no = true) (hw : wi price 1 1073741824 = true) : tellP r no price = ((r.1, putL noIn r.2.1 (setIn (findL noIn in0 r.2.1 no) price), r.2.2), 0) := by
  unfold tellP; rw [if_pos h, if_pos hh, if_pos hw]
theorem put_a {r : Rl} (h : rightR r = true) {no price : Int} (hh : hasL noMb r.1 no = false) : putP r no price = (rl0, 10) := by
  unfold putP; rw [if_pos h, hh]; rfl
theorem put_b {r : Rl} (h : rightR r = true) {no price : Int} (hh : hasL noMb r.1 no = true) (hw : wi price 1 3 = false) : putP r no price = (rl0, 3) := by
  unfold putP; rw [if_pos h, if_pos hh, hw]; rfl
theorem put_c {r : Rl} (h : rightR r = true) {no price : Int} (hh : hasL noMb r.1 no = true) (hw : wi price 1 3 = true) : putP r no price = ((putL noMb r.1 (setMb (findL noMb mb0 r.1 no) price), r.2.1, r.2.2), 0) := by
  unfold putP; rw [if_pos h, if_pos hh, if_pos hw]
theorem wi_no {n lo hi : Int} (h : wi n lo hi = false) : ¬ (lo ≤ n) ∨ (lo ≤ n ∧ ¬ n ≤ hi) := by
  have : ¬ (lo ≤ n ∧ n ≤ hi) := fun hc => by rw [(wi_iff n lo hi).2 hc] at h; cases h
  omega
/-- The price that was told stands in the turned roll. -/
theorem told_turned {r : Rl} (h : rightR r = true) {no price : Int} (hh : hasL noIn r.2.1 no = true) (hw : wi price 1 1073741824 = true) :
    hasL noIn (turnF (r.1, putL noIn r.2.1 (setIn (findL noIn in0 r.2.1 no) price), r.2.2)).2.1 no = true ∧ findL noIn in0 (turnF (r.1, putL noIn r.2.1 (setIn (findL noIn in0 r.2.1 no) price), r.2.2)).2.1 no = (((findL noIn in0 r.2.1 no).1.1, (findL noIn in0 r.2.1 no).1.2.1, (findL noIn in0 r.2.1 no).1.2.2.1, (findL noIn in0 r.2.1 no).1.2.2.2.1, 0, price), (findL noIn in0 r.2.1 no).2) := by
  have hn : noIn (setIn (findL noIn in0 r.2.1 no) price) = no := (find_mem noIn in0 r.2.1 no hh).2
  obtain ⟨p1, p2⟩ := put_find (d := in0) (right_rise h).2.1 (setIn (findL noIn in0 r.2.1 no) price)
  rw [hn] at p1 p2
  obtain ⟨m1, m2⟩ := map_find (d := in0) (l := putL noIn r.2.1 (setIn (findL noIn in0 r.2.1 no) price)) turnIn no_turn no
  have hp := (wi_iff _ _ _).1 hw
  refine ⟨m1.trans p1, (m2 p1).trans ?_⟩
  rw [p2]
  unfold turnIn setIn
  rw [if_pos (by show price ≠ 0; omega)]
theorem turn_len (r : Rl) : (turnF r).1.length = r.1.length ∧ (turnF r).2.1.length = r.2.1.length ∧ (turnF r).2.2.length = r.2.2.length := ⟨rfl, by unfold turnF; rw [List.length_map], rfl⟩
end Go.Proofs.Ytnbgbfbiieimgaa.NumK
namespace Go.Proofs.Ytnbgbfbiieimgaa.NumK
open Go.RowKit
set_option linter.unusedVariables false

theorem OwnE.keepB {α : Type} {E : En α} {w w' : World} {b B : Nat} {t : TypeId} {A : Option Addr} {n c : Nat} {l : List α} (h : OwnE E w b t (.slice A n c) l) (g : Below B w w') (hb : ∀ x, A = some x → x.block < B) : OwnE E w' b t (.slice A n c) l := by
  obtain ⟨hl, h⟩ := h
  refine ⟨hl, ?_⟩
  rcases h with h | ⟨k, cap, cur, hv, h1, hh, r⟩
  · exact Or.inl h
  · refine Or.inr ⟨k, cap, cur, hv, h1, ?_, r⟩
    cases hv
    rw [g.block k (hb ⟨k, 0, none⟩ rfl)]
    exact hh
theorem OwnE.putB {α : Type} {E : En α} {base b : Nat} {t : TypeId} {A : Option Addr} {n c : Nat} {l : List α} {w : World} (h : OwnE E w base t (.slice A n c) l) : ∀ (vs : List Value) (o : Nat), (∀ x, A = some x → x.block ≠ b) → OwnE E (putC w b o vs) base t (.slice A n c) l := by
  intro vs
  induction vs generalizing w with
  | nil => intro o hb; exact h
  | cons u vs ih => intro o hb; exact ih (h.otherB b o u hb) (o + 1) hb
/-- What a call's row grows by, and what stays. -/
theorem grew_low {w w1 w2 : World} {B : Nat} (h : Grew w w1) (g : Below B w1 w2) (hb : w.heap.size ≤ B) : Grew w w2 := Below.trans h (Below.mono g hb)
section
variable {α : Type} {no : α → Int} {d : α} {l : List α} {x : α} {k : Nat}
theorem coll_here (h : (k : Int) + 1 = no x) : collL no d l x (k + 1) = collL no d l x k ++ [x] := by rw [coll_succ, if_pos h]
theorem coll_has (h : ¬ (k : Int) + 1 = no x) (hh : hasL no l ((k : Int) + 1) = true) : collL no d l x (k + 1) = collL no d l x k ++ [findL no d l ((k : Int) + 1)] := by rw [coll_succ, if_neg h, if_pos hh]
theorem coll_no (h : ¬ (k : Int) + 1 = no x) (hh : hasL no l ((k : Int) + 1) = false) : collL no d l x (k + 1) = collL no d l x k := by rw [coll_succ, if_neg h, hh]; simp
theorem coll_len : (collL no d l x k).length ≤ k := by
  induction k with
  | zero => simp [coll_zero]
  | succ k ih =>
    rw [coll_succ, List.length_append]
    split
    · simp; omega
    · split
      · simp; omega
      · simp; omega
end
theorem coll_mb {r : Rl} (h : rightR r = true) (x : Mb) (hx : okMb x = true) : collL noMb mb0 r.1 x 16 = putL noMb r.1 x := by
  obtain ⟨h1, h2⟩ := (rightL_iff _ _ _ _).1 (right_parts h).1
  refine coll_put noMb mb0 r.1 x 16 h2 (fun y hy => ?_) ?_
  · have := h1 y hy; unfold okMb wi at this; simp only [Bool.and_eq_true, decide_eq_true_eq] at this; unfold noMb; omega
  · unfold okMb wi at hx; simp only [Bool.and_eq_true, decide_eq_true_eq] at hx; unfold noMb; omega
theorem coll_in {r : Rl} (h : rightR r = true) (x : In) (hx : okIn x = true) : collL noIn in0 r.2.1 x 8 = putL noIn r.2.1 x := by
  obtain ⟨h1, h2⟩ := (rightL_iff _ _ _ _).1 (right_parts h).2.1
  refine coll_put noIn in0 r.2.1 x 8 h2 (fun y hy => ?_) ?_
  · have := h1 y hy; unfold okIn okIn6 wi at this; simp only [Bool.and_eq_true, decide_eq_true_eq] at this; unfold noIn; omega
  · unfold okIn okIn6 wi at hx; simp only [Bool.and_eq_true, decide_eq_true_eq] at hx; unfold noIn; omega
theorem coll_as {r : Rl} (h : rightR r = true) (x : As) (hx : okAs x = true) : collL noAs as0 r.2.2 x 6 = putL noAs r.2.2 x := by
  obtain ⟨h1, h2⟩ := (rightL_iff _ _ _ _).1 (right_parts h).2.2
  refine coll_put noAs as0 r.2.2 x 6 h2 (fun y hy => ?_) ?_
  · have := h1 y hy; unfold okAs wi at this; simp only [Bool.and_eq_true, decide_eq_true_eq] at this; unfold noAs; omega
  · unfold okAs wi at hx; simp only [Bool.and_eq_true, decide_eq_true_eq] at hx; unfold noAs; omega
end Go.Proofs.Ytnbgbfbiieimgaa.NumK
