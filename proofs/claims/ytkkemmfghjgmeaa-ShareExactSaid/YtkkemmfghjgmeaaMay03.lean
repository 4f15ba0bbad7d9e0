/- A total and weights that may be. -/
import Derived.Test.YtkkemmfghjgmeaaGreedy
import Derived.Test.YtkkemmfghjgmeaaKeepInts
namespace Go.Proofs.Ytkkemmfghjgmeaa.NumK
open Go.RowKit

def inB (x : Int) : Bool := decide (0 ≤ x) && decide (x ≤ 4611686018427387904)
theorem inB_iff (x : Int) : inB x = true ↔ 0 ≤ x ∧ x ≤ 4611686018427387904 := by simp [inB]
def mayB (T : Int) (l : List Int) : Bool := inB T && decide (l.length ≤ 200) && l.all inB
theorem mayB_chk {T : Int} {l : List Int} (h : mayB T l = true) : chkE T l = 0 ∧ l.length ≤ 200 ∧ (∀ x ∈ l, 0 ≤ x ∧ x ≤ 4611686018427387904) ∧ 0 ≤ T ∧ T ≤ 4611686018427387904 := by
  simp only [mayB, Bool.and_eq_true, decide_eq_true_eq, inB_iff, List.all_eq_true] at h
  obtain ⟨⟨h1, h2⟩, h3⟩ := h
  have h4 : ∀ x ∈ l, 0 ≤ x ∧ x ≤ 4611686018427387904 := fun x hx => h3 x hx
  refine ⟨?_, h2, h4, h1⟩
  have k1 : isMoney T = true := (isMoney_iff T).2 (by omega)
  have k2 : l.all isMoney = true := by rw [List.all_eq_true]; intro x hx; have := h4 x hx; exact (isMoney_iff x).2 (by omega)
  have k3 : decide (0 ≤ T) = true := decide_eq_true h1.1
  have k4 : hasNeg l = false := by unfold hasNeg; rw [List.any_eq_false]; intro x hx; have := h4 x hx; simp; omega
  unfold chkE
  rw [k1, k2, k3, k4]; simp; omega

theorem all_inB_succ (zs : List Int) (k : Nat) (h : k < zs.length) : (zs.take (k + 1)).all inB = ((zs.take k).all inB && inB (zs.getD k 0)) := by
  rw [List.take_succ_eq_append_getElem h, List.all_append]
  simp [List.getD, List.getElem?_eq_getElem h]
theorem all_inB_false (zs : List Int) (k : Nat) (h : k < zs.length) (hx : inB (zs.getD k 0) = false) : zs.all inB = false := by
  rw [List.all_eq_false]
  refine ⟨zs[k], List.getElem_mem h, ?_⟩
  simp only [List.getD, List.getElem?_eq_getElem h, Option.getD_some] at hx
  rw [hx]; simp

set_option maxHeartbeats 1000000 in
theorem may03_any (T : Int) (A : Option Addr) (n c : Nat) (zs : List Int) (w : World) (hz : Ints w A n zs) (hn : n ≤ 9223372036854775807) :
    Calls Try.prog 18 #[.int .i64 T, .slice A n c] w fun e w' => e = .returned (.bool (mayB T zs)) ∧ Grew w w' := by
  have HZ := Lib.hid hz
  have hl := hz.1
  clear hz
  by_cases h0 : 0 ≤ T ∧ T ≤ 4611686018427387904 ∧ n ≤ 200
  · obtain ⟨h1, h2, h3⟩ := h0
    have HM : Hid (mayB T zs = zs.all inB) := by
      show _ = _
      unfold mayB
      rw [(inB_iff T).2 ⟨h1, h2⟩, decide_eq_true (show zs.length ≤ 200 by omega)]; rfl
    have HL := Lib.hid hl
    have d1 : ¬ T < 0 := by omega
    have d2 : ¬ 4611686018427387904 < T := by omega
    have d3 : ¬ 200 < (n : Int) := by omega
    clear hl
    generalize mayB T zs = r at *
    go_enter Try.func18, Try.ntmps18
    go_wp2
    go_loopw [5] (fun vi wr => ∃ k : Nat, vi = .int .i64 k ∧ k ≤ n ∧ Hid ((zs.take k).all inB = true) ∧ Hid (Grew w wr)) (fun vi _ => n - (intOf vi).toNat)
    case atStart => exact ⟨0, rfl, Nat.zero_le _, rfl, grew_refl _⟩
    case round =>
      obtain ⟨k, rfl, hk, HE, HG⟩ := hrel
      by_cases hlt : k < n
      · obtain ⟨b, o, rfl, hb, hc⟩ := (HZ.out.keep HG.out).2 (by omega)
        have a1 := hc k hlt
        have a3 : (k : Int) < (n : Int) := by omega
        have HN : Hid (inB (zs.getD k 0) = true → (zs.take (k + 1)).all inB = true) := fun h => by rw [all_inB_succ zs k (by have := HL.out; omega), HE.out, h]; rfl
        have HF : Hid (inB (zs.getD k 0) = false → r = false) := fun h => by rw [HM.out]; exact all_inB_false zs k (by have := HL.out; omega) h
        clear hc
        generalize zs.getD k 0 = y at *
        by_cases y1 : y < 0
        · have HF2 : Hid (r = false) := HF.out (by rw [← Bool.not_eq_true, inB_iff]; omega)
          go_wp2
          go_ret
          exact ⟨ret_b HF2.out.symm, HG.out⟩
        · by_cases y2 : 4611686018427387904 < y
          · have HF2 : Hid (r = false) := HF.out (by rw [← Bool.not_eq_true, inB_iff]; omega)
            go_wp2
            go_ret
            exact ⟨ret_b HF2.out.symm, HG.out⟩
          · have HN2 := Lib.hid (HN.out ((inB_iff y).2 (by omega)))
            go_wp2
            go_roundw
            case rel => exact ⟨k + 1, by go_num, by omega, HN2, HG⟩
            case measure => simp only [intOf]; omega
      · obtain rfl : k = n := by omega
        have HF2 : Hid (r = true) := by
          have := HE.out
          rw [List.take_of_length_le (by have := HL.out; omega)] at this
          show _ = _; rw [HM.out, this]
        go_wp2
        go_ret
        exact ⟨ret_b HF2.out.symm, HG.out⟩
  · have HM : Hid (mayB T zs = false) := by
      show _ = _
      rw [← Bool.not_eq_true]
      intro h
      simp only [mayB, Bool.and_eq_true, decide_eq_true_eq, inB_iff] at h
      omega
    generalize mayB T zs = r at *
    by_cases d1 : T < 0
    · clear h0 hl
      go_enter Try.func18, Try.ntmps18
      go_wp2
      go_ret
      exact ⟨ret_b HM.out.symm, grew_refl _⟩
    · by_cases d2 : 4611686018427387904 < T
      · clear h0 hl
        go_enter Try.func18, Try.ntmps18
        go_wp2
        go_ret
        exact ⟨ret_b HM.out.symm, grew_refl _⟩
      · have d3 : 200 < (n : Int) := by omega
        clear h0 hl
        go_enter Try.func18, Try.ntmps18
        go_wp2
        go_ret
        exact ⟨ret_b HM.out.symm, grew_refl _⟩
end Go.Proofs.Ytkkemmfghjgmeaa.NumK
