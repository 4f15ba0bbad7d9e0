/- What the laws of stage 3 wake. -/
import Derived.Test.YtkkemmfghjgmeaaSplit
import Derived.Test.YtkkemmfghjgmeaaKeepInts
namespace Go.Proofs.Ytkkemmfghjgmeaa.NumK
open Go.RowKit

theorem ints_three (w : World) (a b c : Int) (t : TypeId) (N : Nat) (hN : w.heap.size = N) : Ints (w.alloc (.cells #[.int .i64 a, .int .i64 b, .int .i64 c] t)) (some ⟨N, 0, none⟩) 3 [a, b, c] := ints3' w a b c t N hN

theorem wake_parts {s t : Nat → Nat} (h : Pl (rs 10 [1, 1, 1]) 3 s t) : (List.range 3).map (pt 10 [1, 1, 1] t) = [4, 3, 3] := by
  have r0 : rs 10 [1, 1, 1] 0 = 1 := by decide
  have r1 : rs 10 [1, 1, 1] 1 = 1 := by decide
  have r2 : rs 10 [1, 1, 1] 2 = 1 := by decide
  have a01 : t 0 < t 1 := (h.ahead (by omega) (by omega)).2 (Or.inr ⟨by rw [r0, r1], by omega⟩)
  have a12 : t 1 < t 2 := (h.ahead (by omega) (by omega)).2 (Or.inr ⟨by rw [r1, r2], by omega⟩)
  have a2 := h.lt_t (k := 2) (by omega)
  have l1 : lf 10 [1, 1, 1] = 1 := by decide
  have q0 : qs 10 [1, 1, 1] 0 = 3 := by decide
  have q1 : qs 10 [1, 1, 1] 1 = 3 := by decide
  have q2 : qs 10 [1, 1, 1] 2 = 3 := by decide
  have e0 : t 0 = 0 := by omega
  have e1 : t 1 = 1 := by omega
  have e2 : t 2 = 2 := by omega
  have : List.range 3 = [0, 1, 2] := by decide
  rw [this]
  simp [pt, l1, q0, q1, q2, e0, e1, e2]

theorem wakeSplit (w : World) (N : Nat) (hN : w.heap.size = N) :
    Calls Try.prog 11 #[.int .i64 10, .slice (some ⟨N, 0, none⟩) 3 3] (w.alloc (.cells #[.int .i64 1, .int .i64 1, .int .i64 1] 3)) fun e w' =>
      ∃ B, w.heap.size < B ∧ e = .returned (.tuple #[.slice (some ⟨B, 0, none⟩) 3 3, .int .i64 0]) ∧ Ints w' (some ⟨B, 0, none⟩) 3 [4, 3, 3] ∧ Grew (w.alloc (.cells #[.int .i64 1, .int .i64 1, .int .i64 1] 3)) w' := by
  refine (split_any 10 (some ⟨N, 0, none⟩) 3 3 [1, 1, 1] _ (ints_three w 1 1 1 3 N hN) (by omega)).mono ?_
  rintro e w' ⟨hg, h | h | h⟩
  · exact absurd (by decide) h.1
  · exact absurd h.2.1 (by decide)
  · obtain ⟨_, B, s, t, hB, hP, rfl, hR⟩ := h
    refine ⟨B, by simp at hB; omega, rfl, ?_, hg⟩
    have := hR.ints
    rwa [wake_parts hP] at this

def wakesOK (w : World) (e : Ending) (w' : World) : Prop := e = .returned (.bool true) ∧ Grew w w'

theorem wakes03_any (w : World) : Calls Try.prog 17 #[] w fun e w' => e = .returned (.bool true) ∧ Grew w w' := by
  have C1 := Lib.hid (wakeSplit w _ rfl)
  have CK := Lib.hid (fun (B : Nat) (w1 : World) (N : Nat) (hN : w1.heap.size = N) (h : Ints w1 (some ⟨B, 0, none⟩) 3 [4, 3, 3]) =>
    keepInts_any (some ⟨B, 0, none⟩) (some ⟨N, 0, none⟩) 3 3 3 3 [4, 3, 3] [4, 3, 3] (w1.alloc (.cells #[.int .i64 4, .int .i64 3, .int .i64 3] 3)) (h.keep (grew_alloc _ _ _)) (ints_three w1 4 3 3 3 N hN) (by omega) (by omega))
  go_enter Try.func17, Try.ntmps17
  go_wp2_with (first
    | (go_at_call 11; ((with_reducible refine C1.out.mono ?_); rintro e w1 ⟨B, hB, rfl, hI, hg1⟩; have HI := Lib.hid hI; have HG1 := Lib.hid hg1; clear hI hg1 hB))
    | (go_at_call 13; ((with_reducible refine (CK.out B _ _ rfl HI.out).mono ?_); rintro e w2 ⟨rfl, hg2⟩; have HG2 := Lib.hid hg2; clear hg2)))
  go_ret
  exact ⟨rfl, grew_trans (grew_trans (grew_alloc _ _ _) HG1.out) (grew_trans (grew_alloc _ _ _) HG2.out)⟩
end Go.Proofs.Ytkkemmfghjgmeaa.NumK
