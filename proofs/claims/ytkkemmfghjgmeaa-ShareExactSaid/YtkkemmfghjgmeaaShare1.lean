/- Contracts of package share: plus, minus. -/
import Derived.Test.YtkkemmfghjgmeaaWide4
import Derived.Test.YtkkemmfghjgmeaaWide5
import Derived.Test.YtkkemmfghjgmeaaSub64
namespace Go.Proofs.Ytkkemmfghjgmeaa.NumK
open Go.RowKit

theorem wides_two (w : World) (x y : Int) (t : TypeId) : Wides (w.alloc (.cells #[.int .i64 (hi64 x), .int .u64 (lo64 x), .int .i64 (hi64 y), .int .u64 (lo64 y)] t)) (some ⟨w.heap.size, 0, none⟩) 2 [x, y] :=
  ⟨rfl, fun _ => ⟨_, _, rfl, by simp, fun j hj => by
    match j, hj with
    | 0, _ => simp
    | 1, _ => simp⟩⟩

theorem wide_in (x : Int) (h : -170141183460469231731687303715884105728 ≤ x ∧ x < 170141183460469231731687303715884105728) : isWide x = true := by rw [isWide_iff]; omega

theorem grew_al {w w' : World} (h : Grew w w') (o : Obj) : Grew w (w'.alloc o) := Below.alloc h h.size o

/-- Behind three blocks of the call's own, and a row: the third one as a callee leaves it. -/
theorem third_owned {w w1 : World} {o1 o2 o4 : Obj} {v0 v1 : Value} {t : TypeId} (h : Grew ((((w.alloc o1).alloc o2).alloc (.cells #[v0, v1] t)).alloc o4) w1) :
    w1.cell? ⟨w.heap.size + 1 + 1, 0, none⟩ = some v0 ∧ w1.cell? ⟨w.heap.size + 1 + 1, 1, none⟩ = some v1 ∧ w1.frozen? ⟨w.heap.size + 1 + 1, 0, none⟩ = false ∧ w1.frozen? ⟨w.heap.size + 1 + 1, 1, none⟩ = false ∧ w.heap.size + 1 + 1 < w1.heap.size := by
  have hs := h.size
  have hl : w.heap.size + 1 + 1 < ((((w.alloc o1).alloc o2).alloc (.cells #[v0, v1] t)).alloc o4).heap.size := by simp
  have c : ∀ i, ((((w.alloc o1).alloc o2).alloc (.cells #[v0, v1] t)).alloc o4).cell? ⟨w.heap.size + 1 + 1, i, none⟩ = #[v0, v1][i]? := fun i => by
    rw [World.cell?_alloc_past _ _ _ (by simp), World.cell?_alloc_at _ _ _ _ (by simp)]
  have f : ∀ i, ((((w.alloc o1).alloc o2).alloc (.cells #[v0, v1] t)).alloc o4).frozen? ⟨w.heap.size + 1 + 1, i, none⟩ = false := fun i => by
    rw [World.frozen?_alloc_past _ _ _ (by simp), World.frozen?_alloc_at _ _ _ _ (by simp)]
  refine ⟨(Below.cell h (p := ⟨w.heap.size + 1 + 1, 0, none⟩) hl).trans (c 0), (Below.cell h (p := ⟨w.heap.size + 1 + 1, 1, none⟩) hl).trans (c 1),
    (Below.frozen h (p := ⟨w.heap.size + 1 + 1, 0, none⟩) hl).trans (f 0), (Below.frozen h (p := ⟨w.heap.size + 1 + 1, 1, none⟩) hl).trans (f 1), ?_⟩
  simp at hs; omega

theorem plus_any (x y : Int) (w : World) (hx : isWide x = true) (hy : isWide y = true) (hs : isWide (x + y) = true) :
    Calls Try.prog 38 #[.agg #[.int .i64 (hi64 x), .int .u64 (lo64 x)], .agg #[.int .i64 (hi64 y), .int .u64 (lo64 y)]] w fun e w' => e = .returned (.agg #[.int .i64 (hi64 (x + y)), .int .u64 (lo64 (x + y))]) ∧ Grew w w' := by
  have C : ∀ (w : World) (N : Nat), w.heap.size = N → Calls Try.prog 50 #[.slice (some ⟨N, 0, none⟩) 2 2] (w.alloc (.cells #[.int .i64 (hi64 x), .int .u64 (lo64 x), .int .i64 (hi64 y), .int .u64 (lo64 y)] 38)) fun r w' => r = .returned (.tuple #[.agg #[.int .i64 (hi64 (x + y)), .int .u64 (lo64 (x + y))], .int .i64 0]) ∧ Grew (w.alloc (.cells #[.int .i64 (hi64 x), .int .u64 (lo64 x), .int .i64 (hi64 y), .int .u64 (lo64 y)] 38)) w' := by
    intro w N hN
    subst hN
    have C := wsum_any (some ⟨w.heap.size, 0, none⟩) 2 2 [x, y] _ (wides_two w x y 38) (by intro z hz; simp at hz; rcases hz with rfl | rfl <;> assumption) (by omega)
    have e1 : [x, y].sum = x + y := by simp
    rw [e1] at C
    simpa only [wsV, wideE, hs, if_true] using C
  have C := Lib.hid C
  clear hx hy hs
  generalize hi64 (x + y) = a at *
  generalize lo64 (x + y) = b at *
  generalize hi64 x = x1 at *
  generalize lo64 x = x2 at *
  generalize hi64 y = y1 at *
  generalize lo64 y = y2 at *
  go_enter Try.func38, Try.ntmps38
  go_wp2_with (go_at_call 50; ((with_reducible refine (C.out _ _ (by simp)).mono ?_); rintro e w1 ⟨rfl, hg⟩; have k0 := third_owned hg; obtain ⟨k1, k2, k3, k4, k5⟩ := k0; have HG := Lib.hid hg; clear hg))
  exact bodyPost_ret (v := .agg #[.int .i64 a, .int .u64 b]) (by simp [results, Try.results38, go_sem, k1, k2, k5]) rfl
    ⟨rfl, grew_al (grew_set (grew_set (grew_trans (grew_al (grew_al (grew_al (grew_al (grew_refl _) _) _) _) _) HG.out) _ (by simp; omega)) _ (by simp; omega)) _⟩
end Go.Proofs.Ytkkemmfghjgmeaa.NumK
