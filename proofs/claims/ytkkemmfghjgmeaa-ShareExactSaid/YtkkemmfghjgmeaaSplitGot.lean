/- What a split answers, one list. -/
import Derived.Test.YtkkemmfghjgmeaaWakes03
import Derived.Test.YtkkemmfghjgmeaaMay03
namespace Go.Proofs.Ytkkemmfghjgmeaa.NumK
open Go.RowKit

def spE (T : Int) (l : List Int) : Int := if chkE T l ≠ 0 then chkE T l else if l.sum = 0 ∧ T ≠ 0 then 2 else 0
def SplitVals (T : Int) (l ps : List Int) : Prop :=
  (spE T l ≠ 0 → ps = []) ∧ (spE T l = 0 → SplitOK T l ∧ ∃ s t, Pl (rs T l) l.length s t ∧ ps = (List.range l.length).map (pt T l t))
def SplitGot (T : Int) (l : List Int) (w : World) (e : Ending) (w' : World) : Prop :=
  ∃ A n c ps, e = .returned (.tuple #[.slice A n c, .int .i64 (spE T l)]) ∧ Ints w' A n ps ∧ SplitVals T l ps ∧ n ≤ 1024 ∧ Grew w w' ∧ (spE T l = 0 → ∃ B, A = some ⟨B, 0, none⟩ ∧ w.heap.size ≤ B ∧ n = l.length ∧ RowI w' B n (fun k => ps.getD k 0)) ∧ (spE T l ≠ 0 → A = none ∧ n = 0 ∧ c = 0)

theorem split_got (T : Int) (A : Option Addr) (n c : Nat) (zs : List Int) (w : World) (hz : Ints w A n zs) (hn : n ≤ 9223372036854775807) :
    Calls Try.prog 11 #[.int .i64 T, .slice A n c] w (SplitGot T zs w) := by
  refine (split_any T A n c zs w hz hn).mono fun e w' ⟨hg, h⟩ => ?_
  have hl := hz.1
  rcases h with ⟨h1, rfl⟩ | ⟨h1, h2, h3, rfl⟩ | ⟨h1, B, s, t, hB, hP, rfl, hR⟩
  · have hE : spE T zs = chkE T zs := by unfold spE; rw [if_pos h1]
    exact ⟨none, 0, 0, [], by rw [hE], ints0 _ _, ⟨fun _ => rfl, fun h => absurd (hE ▸ h) h1⟩, by omega, hg, fun h => absurd (hE ▸ h) h1, fun _ => ⟨rfl, rfl, rfl⟩⟩
  · have hE : spE T zs = 2 := by unfold spE; rw [if_neg (by omega), if_pos ⟨h2, h3⟩]
    exact ⟨none, 0, 0, [], by rw [hE], ints0 _ _, ⟨fun _ => rfl, fun h => by omega⟩, by omega, hg, fun h => by omega, fun _ => ⟨rfl, rfl, rfl⟩⟩
  · have hE : spE T zs = 0 := by
      unfold spE
      rw [if_neg (by have := h1.1; omega), if_neg (fun h => h.2 (h1.2 h.1))]
    have hn2 : n ≤ 1024 := by have := (chk_ok h1.1).2.2.2.2; omega
    subst hl
    refine ⟨some ⟨B, 0, none⟩, zs.length, zs.length, _, by rw [hE], hR.ints, ⟨fun h => absurd hE h, fun _ => ⟨h1, s, t, hP, rfl⟩⟩, hn2, hg, fun _ => ⟨B, rfl, hB, rfl, hR.congr (fun k hk => ?_)⟩, fun h => absurd hE h⟩
    simp [List.getD, hk]

/-- Two splits in which all remainders stand in the same order, and all shares are the same, are the same. -/
theorem split_same {T : Int} {l m ps qs' : List Int} (hl : m.length = l.length) (hE : spE T m = spE T l) (h1 : SplitVals T l ps) (h2 : SplitVals T m qs')
    (hA : ∀ x y, x < l.length → y < l.length → (Ah (rs T l) x y ↔ Ah (rs T m) x y)) (hq : spE T l = 0 → ∀ k, k < l.length → qs T m k = qs T l k) : ps = qs' := by
  by_cases h0 : spE T l = 0
  · obtain ⟨_, s, t, P, rfl⟩ := h1.2 h0
    obtain ⟨_, s', t', P', rfl⟩ := h2.2 (by rw [hE]; exact h0)
    rw [hl] at P' ⊢
    have ht := P.only P' hA
    have hlf : lf T m = lf T l := by
      unfold lf
      rw [hl, sm_congr (hq h0)]
    refine List.map_congr_left fun k hk => ?_
    have hk' : k < l.length := by simpa using hk
    unfold pt
    rw [hq h0 k hk', hlf, ht k hk']
  · rw [h1.1 h0, h2.1 (by rw [hE]; exact h0)]

/-! ### weights all so many times greater -/
theorem sum_scale (l : List Int) (k : Int) : (l.map (· * k)).sum = l.sum * k := by
  induction l with
  | nil => simp
  | cons x l ih => simp only [List.map_cons, List.sum_cons, ih, Int.add_mul]
theorem wt_scale (l : List Int) (k : Int) (j : Nat) : wt (l.map (· * k)) j = wt l j * k := by
  unfold wt
  rw [List.getD_eq_getElem?_getD, List.getD_eq_getElem?_getD, List.getElem?_map]
  cases l[j]? <;> simp
theorem qs_scale (T : Int) (l : List Int) (k : Int) (hk : 0 < k) (j : Nat) : qs T (l.map (· * k)) j = qs T l j := by
  unfold qs
  rw [wt_scale, sum_scale, ← Int.mul_assoc, Int.mul_ediv_mul_of_pos_left _ _ hk]
theorem rs_scale (T : Int) (l : List Int) (k : Int) (hk : 0 < k) (j : Nat) : rs T (l.map (· * k)) j = rs T l j * k := by
  have h1 := qr T (l.map (· * k)) j
  have h2 := qr T l j
  rw [qs_scale T l k hk, sum_scale, wt_scale] at h1
  have e1 : qs T l j * (l.sum * k) = qs T l j * l.sum * k := (Int.mul_assoc _ _ _).symm
  have e2 : T * (wt l j * k) = T * wt l j * k := (Int.mul_assoc _ _ _).symm
  rw [e1, e2, ← h2, Int.add_mul] at h1
  omega
theorem ah_scale (T : Int) (l : List Int) (k : Int) (hk : 0 < k) (x y : Nat) : Ah (rs T l) x y ↔ Ah (rs T (l.map (· * k))) x y := by
  unfold Ah
  rw [rs_scale T l k hk, rs_scale T l k hk]
  have a1 : rs T l y * k < rs T l x * k ↔ rs T l y < rs T l x := Int.mul_lt_mul_right hk
  have a2 : rs T l x * k = rs T l y * k ↔ rs T l x = rs T l y := by
    constructor
    · intro h; exact Int.eq_of_mul_eq_mul_right (by omega) h
    · intro h; rw [h]
  rw [a1, a2]
end Go.Proofs.Ytkkemmfghjgmeaa.NumK
