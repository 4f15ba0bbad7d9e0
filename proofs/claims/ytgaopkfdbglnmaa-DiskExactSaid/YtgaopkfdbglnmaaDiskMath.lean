/- The disk as a list of blocks, with its open writes. -/
import Derived.Test.YtgaopkfdbglnmaaBase
namespace Go.Proofs.Ytgaopkfdbglnmaa.NumK
open Go.RowKit

abbrev Blk := List UInt8
def blk0 : Blk := List.replicate 64 0
def blkOf (b : UInt8) : Blk := List.replicate 64 b
/-- What is synced, what is written and not synced, the power, what is armed, whether the power went by it. -/
structure DS where
  safe : List Blk
  opn : List (Nat × Blk)
  off : Bool
  armed : Nat
  cut : Bool

def dNew (n : Nat) : DS := ⟨List.replicate n blk0, [], false, 0, false⟩
def seeL (b : Blk) (l : List (Nat × Blk)) (at' : Nat) : Blk := l.foldl (fun b w => if w.1 = at' then w.2 else b) b
def DS.see (s : DS) (at' : Nat) : Blk := seeL (s.safe.getD at' blk0) s.opn at'
def DS.has (s : DS) (at' : Int) : Prop := 0 ≤ at' ∧ at' < s.safe.length
instance (s : DS) (at' : Int) : Decidable (s.has at') := by unfold DS.has; infer_instance
def dRead (s : DS) (at' : Int) : Blk × Int := if s.off then (blk0, 7) else if s.has at' then (s.see at'.toNat, 0) else (blk0, 3)
/-- Is this write or sync the last one? -/
def dLast (s : DS) : Bool × DS := if s.armed = 0 then (false, s) else if s.armed = 1 then (true, { s with armed := 0, off := true, cut := true }) else (false, { s with armed := s.armed - 1 })
def dWrite (s : DS) (at' : Int) (b : Blk) : Int × DS :=
  if s.off then (7, s) else if s.has at' then (if (dLast s).1 then 7 else 0, { (dLast s).2 with opn := s.opn ++ [(at'.toNat, b)] }) else (3, s)
def applyL (safe : List Blk) (l : List (Nat × Blk)) : List Blk := l.foldl (fun a w => a.set w.1 w.2) safe
def dSync (s : DS) : Int × DS := if s.off then (7, s) else if (dLast s).1 then (7, (dLast s).2) else (0, { (dLast s).2 with safe := applyL s.safe s.opn, opn := [] })
def dArm (s : DS) (n : Int) : DS := if s.off then s else { s with armed := n.toNat }
/-- How many bytes of the k-th open write stay. -/
def stay (picks : List Int) (k : Nat) : Nat := if (picks.getD k 0) % 66 = 65 then 64 else ((picks.getD k 0) % 66 - 1).toNat
def mixB (old new : Blk) (m : Nat) : Blk := new.take m ++ old.drop m
def crashL (picks : List Int) : Nat → List Blk → List (Nat × Blk) → List Blk
  | _, safe, [] => safe
  | k, safe, w :: r => crashL picks (k + 1) (safe.set w.1 (mixB (safe.getD w.1 blk0) w.2 (stay picks k))) r
def dCrash (s : DS) (picks : List Int) : DS := ⟨crashL picks 0 s.safe s.opn, [], true, 0, false⟩
def dStart (s : DS) : DS := if s.cut then { dCrash s [] with off := false } else { s with off := false }

/-! ### what is a disk at all -/
def DS.ok (s : DS) : Prop := (∀ b ∈ s.safe, b.length = 64) ∧ ∀ w ∈ s.opn, w.1 < s.safe.length ∧ w.2.length = 64
theorem applyL_len (safe : List Blk) (l : List (Nat × Blk)) : (applyL safe l).length = safe.length := by
  unfold applyL
  induction l generalizing safe with
  | nil => rfl
  | cons w r ih => rw [List.foldl_cons, ih, List.length_set]
theorem crashL_len (picks : List Int) (k : Nat) (safe : List Blk) (l : List (Nat × Blk)) : (crashL picks k safe l).length = safe.length := by
  induction l generalizing k safe with
  | nil => rfl
  | cons w r ih => rw [crashL, ih, List.length_set]
theorem crashL_snoc (picks : List Int) (k : Nat) (safe : List Blk) (l : List (Nat × Blk)) (w : Nat × Blk) : crashL picks k safe (l ++ [w]) = (crashL picks k safe l).set w.1 (mixB ((crashL picks k safe l).getD w.1 blk0) w.2 (stay picks (k + l.length))) := by
  induction l generalizing k safe with
  | nil => rfl
  | cons x r ih =>
    rw [List.cons_append, crashL, crashL, ih, List.length_cons, show k + 1 + r.length = k + (r.length + 1) by omega]
theorem applyL_snoc (safe : List Blk) (l : List (Nat × Blk)) (w : Nat × Blk) : applyL safe (l ++ [w]) = (applyL safe l).set w.1 w.2 := by
  unfold applyL; rw [List.foldl_append]; rfl
theorem seeL_snoc (b : Blk) (l : List (Nat × Blk)) (w : Nat × Blk) (at' : Nat) : seeL b (l ++ [w]) at' = if w.1 = at' then w.2 else seeL b l at' := by
  unfold seeL; rw [List.foldl_append]; rfl
theorem getD_set_ne {l : List Blk} {i j : Nat} {v : Blk} (h : i ≠ j) : (l.set i v).getD j blk0 = l.getD j blk0 := by
  simp only [List.getD_eq_getElem?_getD]; rw [List.getElem?_set_ne h]
theorem getD_set_eq {l : List Blk} {i : Nat} {v : Blk} (h : i < l.length) : (l.set i v).getD i blk0 = v := by
  simp only [List.getD_eq_getElem?_getD]; rw [List.getElem?_set_self h]; rfl
/-- Synced is as seen. -/
theorem applyL_see (safe : List Blk) (l : List (Nat × Blk)) (at' : Nat) (ha : at' < safe.length) : (applyL safe l).getD at' blk0 = seeL (safe.getD at' blk0) l at' := by
  unfold applyL seeL
  induction l generalizing safe with
  | nil => rfl
  | cons w r ih =>
    rw [List.foldl_cons, List.foldl_cons, ih _ (by rw [List.length_set]; exact ha)]
    by_cases h : w.1 = at'
    · subst h; rw [getD_set_eq ha, if_pos rfl]
    · rw [getD_set_ne h, if_neg h]
/-- What was not written since stays. -/
theorem crashL_other (picks : List Int) (k : Nat) (safe : List Blk) (l : List (Nat × Blk)) (at' : Nat) (h : ∀ w ∈ l, w.1 ≠ at') : (crashL picks k safe l).getD at' blk0 = safe.getD at' blk0 := by
  induction l generalizing k safe with
  | nil => rfl
  | cons w r ih => rw [crashL, ih _ _ (fun x hx => h x (by simp [hx])), getD_set_ne (h w (by simp))]
/-- Without picks nothing stays. -/
theorem crashL_none (k : Nat) (safe : List Blk) (l : List (Nat × Blk)) (h : ∀ w ∈ l, w.1 < safe.length) : crashL [] k safe l = safe := by
  induction l generalizing k safe with
  | nil => rfl
  | cons w r ih =>
    have hw := h w (by simp)
    have e : safe.set w.1 (mixB (safe.getD w.1 blk0) w.2 (stay [] k)) = safe := by
      have : mixB (safe.getD w.1 blk0) w.2 (stay [] k) = safe[w.1] := by simp [mixB, stay, List.getD, hw]
      rw [this]; exact List.set_getElem_self hw
    rw [crashL, e]
    exact ih _ _ (fun x hx => h x (by simp [hx]))
theorem mixB_len {a b : Blk} {m : Nat} (ha : a.length = 64) (hb : b.length = 64) : (mixB a b m).length = 64 := by
  simp [mixB]; omega
theorem mixB_mem {a b : Blk} {m : Nat} {x : UInt8} (h : x ∈ mixB a b m) : x ∈ a ∨ x ∈ b := by
  unfold mixB at h
  rcases List.mem_append.1 h with h | h
  · exact Or.inr (List.mem_of_mem_take h)
  · exact Or.inl (List.mem_of_mem_drop h)
theorem mixB_all {a b : Blk} (ha : a.length = 64) (hb : b.length = 64) : mixB a b 64 = b := by
  unfold mixB; rw [List.take_of_length_le (by omega), List.drop_of_length_le (by omega), List.append_nil]
theorem stay_all (picks : List Int) (k : Nat) (h : picks.getD k 0 = 65) : stay picks k = 64 := by unfold stay; rw [h]; rfl
end Go.Proofs.Ytgaopkfdbglnmaa.NumK
