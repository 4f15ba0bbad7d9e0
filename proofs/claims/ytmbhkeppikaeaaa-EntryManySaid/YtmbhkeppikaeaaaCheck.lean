/- entry.Check; what the laws of stage 9 wake. -/
import Derived.Test.YtmbhkeppikaeaaaEven
import Derived.Test.YtmbhkeppikaeaaaJoin
namespace Go.Proofs.Ytmbhkeppikaeaaa.NumK
open Go.RowKit

def checkE (l : List Lg) : Int := if l.length = 0 then 2 else if 64 < l.length then 5 else if mayL l then (if evenL l then 0 else 12) else 3

set_option maxRecDepth 100000 in
theorem check_any (A : Option Addr) (n c : Nat) (l : List Lg) (w : World) (h : RowE enLg w A n l) (hn : n ≤ 1000000) :
    Calls Try.prog 10 #[.slice A n c] w fun e w' => e = .returned (.int .i64 (checkE l)) ∧ Grew w w' := by
  have HI := Lib.hid h
  have HL := h.len
  have CR := fun w (h : RowE enLg w A n l) => legsRight_any A n c l w h (by omega)
  have CE := fun w (h : RowE enLg w A n l) hm => even_any A n c l w h hm hn
  have HE : Hid (checkE l = if n = 0 then 2 else if 64 < n then 5 else if mayL l then (if evenL l then 0 else 12) else 3) := by show _ = _; unfold checkE; rw [HL]
  generalize checkE l = R at *
  clear h HL
  by_cases h0 : n = 0
  · have HR : Hid (R = 2) := by show _ = _; rw [HE.out, if_pos h0]
    subst h0
    go_enter Try.func10, Try.ntmps10
    go_wp2
    go_ret
    exact ⟨ret_i HR.out.symm, grew_refl _⟩
  · have d0 : ((n : Int) == 0) = false := by simp; omega
    by_cases h1 : 64 < n
    · have HR : Hid (R = 5) := by show _ = _; rw [HE.out, if_neg h0, if_pos h1]
      have i1 : (64 : Int) < (n : Int) := by omega
      clear h0
      go_enter Try.func10, Try.ntmps10
      go_wp2
      go_ret
      exact ⟨ret_i HR.out.symm, grew_refl _⟩
    · have HR1 : Hid (R = if mayL l then (if evenL l then 0 else 12) else 3) := by show _ = _; rw [HE.out, if_neg h0, if_neg h1]
      have i1 : ¬ (64 : Int) < (n : Int) := by omega
      clear h0 HE
      by_cases hm : mayL l = true
      · rw [hm] at CR
        have HR2 : Hid (R = if evenL l then 0 else 12) := by show _ = _; rw [HR1.out, hm]; rfl
        have CE2 := fun w h => CE w h hm
        clear CE HR1 hm
        generalize evenL l = ev at *
        cases ev
        · go_enter Try.func10, Try.ntmps10
          go_wp2_with (first
            | (go_at_call 22; ((with_reducible refine (CR _ HI.out).mono ?_); rintro e w1 ⟨rfl, hg⟩; have HG1 := Lib.hid hg; clear hg))
            | (go_at_call 23; ((with_reducible refine (CE2 _ (HI.out.keep HG1.out)).mono ?_); rintro e w2 ⟨rfl, hg⟩; have HG2 := Lib.hid (grew_trans HG1.out hg); clear hg)))
          go_ret
          exact ⟨ret_i HR2.out.symm, HG2.out⟩
        · go_enter Try.func10, Try.ntmps10
          go_wp2_with (first
            | (go_at_call 22; ((with_reducible refine (CR _ HI.out).mono ?_); rintro e w1 ⟨rfl, hg⟩; have HG1 := Lib.hid hg; clear hg))
            | (go_at_call 23; ((with_reducible refine (CE2 _ (HI.out.keep HG1.out)).mono ?_); rintro e w2 ⟨rfl, hg⟩; have HG2 := Lib.hid (grew_trans HG1.out hg); clear hg)))
          go_ret
          exact ⟨ret_i HR2.out.symm, HG2.out⟩
      · rw [Bool.not_eq_true] at hm
        rw [hm] at CR
        have HR2 : Hid (R = 3) := by show _ = _; rw [HR1.out, hm]; rfl
        clear CE HR1 hm
        go_enter Try.func10, Try.ntmps10
        go_wp2_with (go_at_call 22; ((with_reducible refine (CR _ HI.out).mono ?_); rintro e w1 ⟨rfl, hg⟩; have HG1 := Lib.hid hg; clear hg))
        go_ret
        exact ⟨ret_i HR2.out.symm, HG1.out⟩

/-! ### wakes -/
def wakeL : List Lg := [((2, 1, 0), 5), ((2, 1, 0), -3), ((1, 0, 0), -2)]
theorem wake_joinE : joinE wakeL = 0 := by decide +kernel
theorem wake_joinL : joinL wakeL = [((1, 0, 0), -2), ((2, 1, 0), 2)] := by decide +kernel
theorem rowE_wake (w : World) (t : TypeId) (N : Nat) (hN : w.heap.size = N) :
    RowE enLg (w.alloc (.cells #[.int .i64 2, .int .i64 1, .int .i64 0, .int .i64 5, .int .i64 2, .int .i64 1, .int .i64 0, .int .i64 (-3), .int .i64 1, .int .i64 0, .int .i64 0, .int .i64 (-2)] t)) (some ⟨N, 0, none⟩) 3 wakeL := by
  subst hN
  refine ⟨rfl, fun _ => ⟨_, _, rfl, by simp, fun j hj => ⟨_, rfl, fun i hi => ?_⟩⟩⟩
  have hi : i < 4 := hi
  have hj : j < 3 := hj
  refine (World.cell?_alloc_at _ _ _ _ rfl).trans ?_
  match j, hj, i, hi with
  | 0, _, 0, _ => rfl
  | 0, _, 1, _ => rfl
  | 0, _, 2, _ => rfl
  | 0, _, 3, _ => rfl
  | 1, _, 0, _ => rfl
  | 1, _, 1, _ => rfl
  | 1, _, 2, _ => rfl
  | 1, _, 3, _ => rfl
  | 2, _, 0, _ => rfl
  | 2, _, 1, _ => rfl
  | 2, _, 2, _ => rfl
  | 2, _, 3, _ => rfl

set_option maxRecDepth 100000 in
theorem wakes09_any (w : World) : Calls Try.prog 16 #[] w fun e w' => e = .returned (.bool true) ∧ Grew w w' := by
  have CJ : ∀ (w : World) (N : Nat), w.heap.size = N → Calls Try.prog 12 #[.slice (some ⟨N, 0, none⟩) 3 3] (w.alloc (.cells #[.int .i64 2, .int .i64 1, .int .i64 0, .int .i64 5, .int .i64 2, .int .i64 1, .int .i64 0, .int .i64 (-3), .int .i64 1, .int .i64 0, .int .i64 0, .int .i64 (-2)] 40)) fun e w' =>
      ∃ b o c, e = .returned (.tuple #[.slice (some ⟨b, o, none⟩) 2 c, .int .i64 0]) ∧ w'.cell? ⟨b, o + 3, none⟩ = some (.int .i64 (-2)) ∧ w'.cell? ⟨b, o + 4 + 3, none⟩ = some (.int .i64 2) ∧ Grew w w' := by
    intro w N hN
    refine (join_any (some ⟨N, 0, none⟩) 3 3 wakeL _ (rowE_wake w _ N hN) (by omega)).mono ?_
    rintro e w' ⟨v, rfl, ho, hg⟩
    rw [wake_joinL] at ho
    rw [wake_joinE]
    obtain ⟨A, c, rfl, hr, _⟩ := ho.form
    obtain ⟨b, o, rfl, _, _, _, _, h4⟩ := hr.lg (j := 0) (by decide)
    obtain ⟨b', o', he, _, _, _, _, h5⟩ := hr.lg (j := 1) (by decide)
    cases he
    exact ⟨b, o, c, rfl, by simpa using h4, by simpa using h5, own_back hg⟩
  go_enter Try.func16, Try.ntmps16
  go_wp2_with (go_at_call 12; ((with_reducible refine (CJ _ _ (by simp)).mono ?_); rintro e w1 ⟨b, o, c, rfl, d1, d2, hg⟩; have HG1 := Lib.hid (grew_trans (grew_trans (grew_alloc _ _ _) (grew_alloc _ _ _)) hg); clear hg CJ))
  go_ret
  exact ⟨rfl, HG1.out⟩
end Go.Proofs.Ytmbhkeppikaeaaa.NumK
