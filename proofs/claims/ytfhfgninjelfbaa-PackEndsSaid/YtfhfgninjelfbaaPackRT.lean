/- Items there and back: what is written of items, what reading them leaves. -/
import Derived.Test.YtfhfgninjelfbaaPackGot
import Derived.Test.YtfhfgninjelfbaaRefPackB
namespace Go.Proofs.Ytfhfgninjelfbaa.NumK
open Go.RowKit

def encIt (x : It) : List UInt8 := if kd x.K = 0 then encL x.L else if kd x.K = 1 then encM x.B else encT x.T
def encAll (l : List It) : List UInt8 := (l.map encIt).flatten
/-- No text too long, whatever the kind; all numbers are numbers. -/
def FitIt (x : It) : Prop := x.T.length ≤ 65536 ∧ IntsIn x.L
theorem wItem_fit {x : It} (h : FitIt x) (l : List UInt8) : wItem (some l) x = some (l ++ encIt x) := by
  unfold wItem encIt
  split
  · rfl
  · split
    · rfl
    · rw [if_pos h.1]; rfl
theorem wAll_from (xs : List It) (h : ∀ x ∈ xs, FitIt x) : ∀ l, xs.foldl wItem (some l) = some (l ++ encAll xs) := by
  induction xs with
  | nil => intro l; simp [encAll]
  | cons x xs ih =>
    intro l
    rw [List.foldl_cons, wItem_fit (h x (by simp)), ih (fun y hy => h y (by simp [hy]))]
    simp [encAll]
theorem wAll_fit {xs : List It} (h : ∀ x ∈ xs, FitIt x) : wAll xs = some (encAll xs) := by
  unfold wAll; rw [wAll_from xs h]; simp

theorem gotL_enc (l : List Int) (h : IntsIn l) (r : List UInt8) : gotL l ⟨encL l ++ r, 0⟩ = (true, ⟨r, 0⟩) := by
  induction l with
  | nil => rfl
  | cons n l ih =>
    have hn := h n (by simp)
    rw [encL_cons, List.append_assoc, gotL, rI_enc hn.1 hn.2]
    dsimp only
    rw [if_pos rfl]
    exact ih fun z hz => h z (by simp [hz])
theorem gotS_enc {x : It} (h : FitIt x) (r : List UInt8) : gotS x ⟨encIt x ++ r, 0⟩ = (true, ⟨r, 0⟩) := by
  unfold gotS encIt
  split
  · exact gotL_enc x.L h.2 r
  · split
    · rw [rM_enc]; simp
    · rw [rT_enc h.1]; simp
theorem gotS_drop {l : List It} {k : Nat} (hk : k < l.length) (h : ∀ x ∈ l, FitIt x) : gotS (l.getD k default) ⟨encAll (l.drop k), 0⟩ = (true, ⟨encAll (l.drop (k + 1)), 0⟩) := by
  have e : l.drop k = l.getD k default :: l.drop (k + 1) := by
    rw [List.drop_eq_getElem_cons hk]; simp [List.getD, hk]
  rw [e]
  show gotS _ ⟨encIt _ ++ encAll (l.drop (k + 1)), 0⟩ = _
  refine gotS_enc (h _ ?_) _
  rw [List.getD_eq_getElem?_getD, List.getElem?_eq_getElem hk]; exact List.getElem_mem _

/-! ### what reading all of them leaves -/
def readAll (l : List It) (s : RS) : RS := l.foldl (fun s x => (gotS x s).2) s
theorem readAll_snoc (l : List It) (k : Nat) (hk : k < l.length) (s : RS) : readAll (l.take (k + 1)) s = (gotS (l.getD k default) (readAll (l.take k) s)).2 := by
  unfold readAll
  rw [List.take_succ_eq_append_getElem hk, List.foldl_append]
  simp [List.getD, hk]
theorem readAll_enc (l : List It) (h : ∀ x ∈ l, FitIt x) (r : List UInt8) : readAll l ⟨encAll l ++ r, 0⟩ = ⟨r, 0⟩ := by
  induction l with
  | nil => rfl
  | cons x l ih =>
    show readAll l (gotS x ⟨encAll (x :: l) ++ r, 0⟩).2 = _
    have : encAll (x :: l) ++ r = encIt x ++ (encAll l ++ r) := by simp [encAll]
    rw [this, gotS_enc (h x (by simp))]
    exact ih fun y hy => h y (by simp [hy])

/-- An item of one number at most. -/
def oneB (x : It) : Bool := !(decide (kd x.K = 0) && decide (1 < x.L.length))
theorem gotS_more {x : It} (hx : oneB x = true) {s : RS} (h : (gotS x s).2.e = 0) (y : List UInt8) : s.e = 0 ∧ (gotS x ⟨s.l ++ y, 0⟩).2 = ⟨(gotS x s).2.l ++ y, 0⟩ := by
  unfold oneB at hx
  unfold gotS at *
  split at h
  · rename_i k0
    rw [if_pos k0, if_pos k0]
    simp [k0] at hx
    cases hL : x.L with
    | nil =>
      rw [hL] at h
      exact ⟨h, rfl⟩
    | cons n r =>
      have hr : r = [] := by rw [hL] at hx; simp at hx; exact hx
      subst hr
      have e1 : ∀ t : RS, (gotL [n] t).2 = (rI t).2 := fun t => by unfold gotL; split <;> rfl
      rw [hL, e1] at h
      rw [e1, e1, rI_more h]
      exact ⟨(rI_was h).1, rfl⟩
  · rename_i k0
    rw [if_neg k0, if_neg k0]
    split at h
    · rename_i k1
      rw [if_pos k1, if_pos k1]
      dsimp only at *
      rw [rM_more h]
      exact ⟨(rM_was h).1, rfl⟩
    · rename_i k1
      rw [if_neg k1, if_neg k1]
      dsimp only at *
      rw [rT_more h]
      exact ⟨(rT_was h).1, rfl⟩
theorem readAll_more (l : List It) (hl : l.all oneB = true) : ∀ (s : RS), (readAll l s).e = 0 → ∀ y, s.e = 0 ∧ readAll l ⟨s.l ++ y, 0⟩ = ⟨(readAll l s).l ++ y, 0⟩ := by
  induction l with
  | nil => intro s h y; exact ⟨h, rfl⟩
  | cons x l ih =>
    intro s h y
    rw [List.all_cons, Bool.and_eq_true] at hl
    have h2 : (readAll l (gotS x s).2).e = 0 := h
    obtain ⟨g1, g2⟩ := ih hl.2 _ h2 y
    obtain ⟨f1, f2⟩ := gotS_more hl.1 g1 y
    refine ⟨f1, ?_⟩
    show readAll l (gotS x ⟨s.l ++ y, 0⟩).2 = _
    rw [f2]; exact g2
theorem rD_cut {l : List It} (h : ∀ x ∈ l, FitIt x) (hl : l.all oneB = true) {n : Nat} (hn : n < (encAll l).length) : rD (readAll l ⟨(encAll l).take n, 0⟩) ≠ 0 := by
  intro hd
  have he : (readAll l ⟨(encAll l).take n, 0⟩).e = 0 ∧ (readAll l ⟨(encAll l).take n, 0⟩).l = [] := by
    unfold rD at hd
    split at hd
    · cases hd
    · rename_i hx
      refine ⟨hd, ?_⟩
      cases hs : (readAll l ⟨(encAll l).take n, 0⟩).l with
      | nil => rfl
      | cons c r => exact absurd ⟨hd, by rw [hs]; simp⟩ hx
  have := (readAll_more l hl _ he.1 ((encAll l).drop n)).2
  dsimp only at this
  rw [List.take_append_drop, he.2] at this
  have h2 := readAll_enc l h []
  rw [List.append_nil] at h2
  rw [h2] at this
  injection this with h3 _
  have := congrArg List.length h3
  simp at this
  omega
theorem rD_more {l : List It} (h : ∀ x ∈ l, FitIt x) (c : UInt8) : rD (readAll l ⟨encAll l ++ [c], 0⟩) ≠ 0 := by
  rw [readAll_enc l h]
  simp [rD]
theorem rD_left (l : List UInt8) : rD ⟨l, 0⟩ = 0 ↔ l = [] := by
  cases l <;> simp [rD]
end Go.Proofs.Ytfhfgninjelfbaa.NumK
