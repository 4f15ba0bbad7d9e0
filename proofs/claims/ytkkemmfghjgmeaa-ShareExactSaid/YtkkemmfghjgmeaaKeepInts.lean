/- Contracts of cambistkeep: Ints. -/
import Derived.Test.YtkkemmfghjgmeaaMem
import Derived.Test.YtkkemmfghjgmeaaWide0
import Derived.Deep.QuietTactic
import Derived.BigQuiet
namespace Go.Proofs.Ytkkemmfghjgmeaa.NumK
open Go.RowKit

theorem take_eq_succ {xs ys : List Int} {k : Nat} (h1 : k < xs.length) (h2 : k < ys.length) (h : xs.take k = ys.take k) (he : xs.getD k 0 = ys.getD k 0) : xs.take (k + 1) = ys.take (k + 1) := by
  rw [List.take_succ_eq_append_getElem h1, List.take_succ_eq_append_getElem h2, h]
  simp only [List.getD, List.getElem?_eq_getElem h1, List.getElem?_eq_getElem h2, Option.getD_some] at he
  rw [he]

set_option maxHeartbeats 1000000 in
theorem keepInts_any (A B : Option Addr) (n m c c2 : Nat) (xs ys : List Int) (w : World) (hx : Ints w A n xs) (hy : Ints w B m ys) (hn : n ≤ 9223372036854775807) (hm : m ≤ 9223372036854775807) :
    Calls Try.prog 13 #[.slice A n c, .slice B m c2] w fun e w' => e = .returned (.bool (decide (xs = ys))) ∧ Grew w w' := by
  have HX := Lib.hid hx
  have HY := Lib.hid hy
  clear hx hy
  by_cases hnm : n = m
  · subst hnm
    go_enter Try.func13, Try.ntmps13
    go_wp2
    go_loopw [5] (fun vi wr => ∃ k : Nat, vi = .int .i64 k ∧ k ≤ n ∧ Hid (xs.take k = ys.take k) ∧ Hid (Grew w wr)) (fun vi _ => n - (intOf vi).toNat)
    case atStart => exact ⟨0, rfl, Nat.zero_le _, rfl, grew_refl _⟩
    case round =>
      obtain ⟨k, rfl, hk, HE, HG⟩ := hrel
      by_cases hlt : k < n
      · obtain ⟨b, o, rfl, hb, hc⟩ := (HX.out.keep HG.out).2 (by omega)
        obtain ⟨b2, o2, rfl, hb2, hc2⟩ := (HY.out.keep HG.out).2 (by omega)
        have a1 := hc k hlt
        have a2 := hc2 k hlt
        have hl1 := HX.out.1
        have hl2 := HY.out.1
        have a3 : (k : Int) < (n : Int) := by omega
        have HN := Lib.hid (take_eq_succ (xs := xs) (ys := ys) (k := k) (by omega) (by omega) HE.out)
        have HF : Hid (xs.getD k 0 ≠ ys.getD k 0 → decide (xs = ys) = false) := fun h => decide_eq_false (fun e => h (by rw [e]))
        clear hc hc2 hl1 hl2
        generalize xs.getD k 0 = x at *
        generalize ys.getD k 0 = y at *
        by_cases hxy : x = y
        · subst hxy
          have HN2 := Lib.hid (HN.out rfl)
          clear HN HF
          go_wp2_with fail
          go_quiet (fail)
          have HG2 : Hid (Grew w (wr.drewN nq)) := grew_drewN HG.out _
          generalize wr.drewN nq = w2 at HG2 ⊢
          go_wp2
          go_roundw
          case rel => exact ⟨k + 1, by go_num, by omega, HN2, HG2⟩
          case measure => simp only [intOf]; omega
        · have d1 : (x != y) = true := by simpa using hxy
          have HF2 := Lib.hid (HF.out hxy)
          clear HN HF hxy
          go_wp2_with fail
          go_quiet (fail)
          have HG2 : Hid (Grew w (wr.drewN nq)) := grew_drewN HG.out _
          generalize wr.drewN nq = w2 at HG2 ⊢
          go_wp2
          go_ret
          exact ⟨ret_b HF2.out.symm, HG2.out⟩
      · obtain rfl : k = n := by omega
        have hl1 := HX.out.1
        have hl2 := HY.out.1
        have HF : Hid (decide (xs = ys) = true) := decide_eq_true (by have := HE.out; rwa [List.take_of_length_le (by omega), List.take_of_length_le (by omega)] at this)
        clear hl1 hl2
        go_wp2
        go_ret
        exact ⟨ret_b HF.out.symm, HG.out⟩
  · have HF : Hid (decide (xs = ys) = false) := decide_eq_false (fun e => hnm (by rw [← HX.out.1, ← HY.out.1, e]))
    have d1 : ((n : Int) != (m : Int)) = true := by simp; omega
    go_enter Try.func13, Try.ntmps13
    go_wp2
    go_ret
    exact ⟨ret_b HF.out.symm, grew_refl _⟩
end Go.Proofs.Ytkkemmfghjgmeaa.NumK
