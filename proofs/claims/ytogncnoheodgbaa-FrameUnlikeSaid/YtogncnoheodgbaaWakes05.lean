/- What the laws of stage 5 wake: the sum of nine digits. -/
import Derived.Test.YtogncnoheodgbaaFrameE
import Derived.Test.YtogncnoheodgbaaKeepB
namespace Go.Proofs.Ytogncnoheodgbaa.NumK
open Go.RowKit

theorem crc_nine : crc [49, 50, 51, 52, 53, 54, 55, 56, 57] = 3421780262 := by decide +kernel
/-- A row that bears the mark of what was a text. -/
theorem run_mark (w : World) (C : Array Value) (k n c : Nat) (hk : k = w.heap.size) :
    (convert 23 23 (.slice (some ⟨k, 0, none⟩) n c)).run Try.prog (w.alloc (.cells C 5)) = .ok (.slice (some ⟨k, 0, none⟩) n c) (w.alloc (.cells C 5 (C.size, C.size + 1))) := by
  subst hk
  have hsh : (w.alloc (.cells C 5)).shape? w.heap.size = some (5, C.size) := by
    have : (w.alloc (.cells C 5)).heap[w.heap.size]? = some (.cells C 5) := by
      show (w.heap.push (.cells C 5))[w.heap.size]? = _
      simp
    unfold World.shape?
    rw [this]
  have hfr : (w.alloc (.cells C 5)).freeze ⟨w.heap.size, C.size, none⟩ 1 = w.alloc (.cells C 5 (C.size, C.size + 1)) := by
    have hm : ∀ (a : Array Obj) (x : Obj) (f : Obj → Obj), (a.push x).modify a.size f = a.push (f x) := by
      intro a x f
      apply Array.ext
      · simp
      · intro i h1 h2
        simp only [Array.getElem_modify, Array.getElem_push]
        by_cases h : a.size = i
        · subst h
          simp
        · have hi : i < a.size := by simp at h1; omega
          simp [h, hi]
    unfold World.freeze
    rw [if_neg (by decide)]
    show ({ w.alloc (.cells C 5) with heap := (w.heap.push (.cells C 5)).modify w.heap.size _ } : World) = _
    rw [hm]
    rfl
  simp [convert, run_underlying Try.underlying23, run_underlying Try.underlying5, markStringish, hsh]
  exact hfr
theorem bys4m (w : World) (a b c d : Int) (x y z u : UInt8) (t : TypeId) (m : Nat × Nat) (h1 : a = x.toNat) (h2 : b = y.toNat) (h3 : c = z.toNat) (h4 : d = u.toNat) :
    Bys (w.alloc (.cells #[.int .u8 a, .int .u8 b, .int .u8 c, .int .u8 d] t m)) (some ⟨w.heap.size, 0, none⟩) 4 [x, y, z, u] :=
  ⟨rfl, fun _ => ⟨_, _, rfl, by simp, fun j hj => by
    rw [Nat.zero_add]
    refine (World.cell?_alloc_mark w _ _ _ j).trans ?_
    match j, hj with
    | 0, _ => simp [h1]
    | 1, _ => simp [h2]
    | 2, _ => simp [h3]
    | 3, _ => simp [h4]⟩⟩
theorem bys5m (w : World) (a b c d e : Int) (x y z u v : UInt8) (t : TypeId) (m : Nat × Nat) (h1 : a = x.toNat) (h2 : b = y.toNat) (h3 : c = z.toNat) (h4 : d = u.toNat) (h5 : e = v.toNat) :
    Bys (w.alloc (.cells #[.int .u8 a, .int .u8 b, .int .u8 c, .int .u8 d, .int .u8 e] t m)) (some ⟨w.heap.size, 0, none⟩) 5 [x, y, z, u, v] :=
  ⟨rfl, fun _ => ⟨_, _, rfl, by simp, fun j hj => by
    rw [Nat.zero_add]
    refine (World.cell?_alloc_mark w _ _ _ j).trans ?_
    match j, hj with
    | 0, _ => simp [h1]
    | 1, _ => simp [h2]
    | 2, _ => simp [h3]
    | 3, _ => simp [h4]
    | 4, _ => simp [h5]⟩⟩

set_option maxHeartbeats 1000000 in
theorem wakes05_any (w : World) : Calls Try.prog 12 #[] w fun e w' => e = .returned (.bool true) ∧ Grew w w' := by
  obtain ⟨W1, hW1⟩ : ∃ W1, W1 = w.alloc (.cells #[.int .u8 49, .int .u8 50, .int .u8 51, .int .u8 52] 5 (4, 5)) := ⟨_, rfl⟩
  obtain ⟨W2, hW2⟩ : ∃ W2, W2 = W1.alloc (.cells #[.int .u8 53, .int .u8 54, .int .u8 55, .int .u8 56, .int .u8 57] 5 (5, 6)) := ⟨_, rfl⟩
  have s1 : W1.heap.size = w.heap.size + 1 := by rw [hW1]; simp
  have s2 : W2.heap.size = w.heap.size + 2 := by rw [hW2]; simp [s1]
  have m1 := run_mark w #[.int .u8 49, .int .u8 50, .int .u8 51, .int .u8 52] w.heap.size 4 4 rfl
  have m2 := run_mark W1 #[.int .u8 53, .int .u8 54, .int .u8 55, .int .u8 56, .int .u8 57] (w.heap.size + 1) 5 5 s1.symm
  have hb1 : Bys W2 (some ⟨w.heap.size, 0, none⟩) 4 [49, 50, 51, 52] := by
    rw [hW2, hW1]; exact (bys4m w 49 50 51 52 49 50 51 52 _ _ rfl rfl rfl rfl).keep (Below.alloc (Below.refl _ _) (Nat.le_refl _) _)
  have hb2 : Bys W2 (some ⟨w.heap.size + 1, 0, none⟩) 5 [53, 54, 55, 56, 57] := by
    rw [hW2, ← s1]; exact bys5m W1 53 54 55 56 57 53 54 55 56 57 _ _ rfl rfl rfl rfl rfl
  have hs := sum_any (some ⟨W2.heap.size, 0, none⟩) 2 2 [[49, 50, 51, 52], [53, 54, 55, 56, 57]] _ (rows2 (A1 := some ⟨w.heap.size, 0, none⟩) (A2 := some ⟨w.heap.size + 1, 0, none⟩) (n1 := 4) (c1 := 4) (n2 := 5) (c2 := 5) 23 hb1 (fun h => by cases h) (by omega) (by omega) hb2 (fun h => by cases h) (by omega) (by omega)) (by omega)
  have hg : Grew w (W2.alloc (.cells #[.slice (some ⟨w.heap.size, 0, none⟩) 4 4, .slice (some ⟨w.heap.size + 1, 0, none⟩) 5 5] 23)) := by
    rw [hW2, hW1]
    exact grew_trans (grew_trans (Below.alloc (Below.refl _ _) (Nat.le_refl _) _) (Below.alloc (Below.refl _ _) (Nat.le_refl _) _)) (grew_alloc _ _ _)
  have hf : ([[49, 50, 51, 52], [53, 54, 55, 56, 57]] : List (List UInt8)).flatten = [49, 50, 51, 52, 53, 54, 55, 56, 57] := rfl
  rw [hf, crc_nine, s2] at hs
  subst hW2
  subst hW1
  have HG := Lib.hid hg
  have HS := Lib.hid hs
  clear hb1 hb2 hs hg hf s1 s2
  go_enter Try.func12, Try.ntmps12
  go_wp2_with (go_at_call 10; ((refine HS.out.mono ?_); rintro e w1 ⟨rfl, rfl⟩))
  go_ret
  exact ⟨rfl, HG.out⟩
end Go.Proofs.Ytogncnoheodgbaa.NumK
