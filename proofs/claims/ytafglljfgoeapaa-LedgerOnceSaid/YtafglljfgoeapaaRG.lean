/- entry.plus: a sum of 128 bits with an amount added. -/
import Derived.Test.YtafglljfgoeapaaRB
import Derived.Test.YtafglljfgoeapaaRF
import Derived.Deep.RegionWith
namespace Go.Proofs.Ytafglljfgoeapaa.NumK
open Go.RowKit

theorem wides2 (w : World) (x y : Int) (t : TypeId) (N : Nat) (hN : w.heap.size = N) : Wides (w.alloc (.cells #[.int .i64 (hi64 x), .int .u64 (lo64 x), .int .i64 (hi64 y), .int .u64 (lo64 y)] t)) (some ⟨N, 0, none⟩) 2 [x, y] := by
  subst hN
  refine ⟨rfl, fun _ => ⟨_, _, rfl, by simp, fun j hj => ?_⟩⟩
  match j, hj with
  | 0, _ => exact ⟨(World.cell?_alloc_at _ _ _ _ rfl).trans rfl, (World.cell?_alloc_at _ _ _ _ rfl).trans rfl⟩
  | 1, _ => exact ⟨(World.cell?_alloc_at _ _ _ _ rfl).trans rfl, (World.cell?_alloc_at _ _ _ _ rfl).trans rfl⟩

theorem sum2 (x y : Int) (w : World) (N : Nat) (hN : w.heap.size = N) (hx : isWide x = true) (hy : isWide y = true) (hs : isWide (x + y) = true) :
    Calls Try.prog 65 #[.slice (some ⟨N, 0, none⟩) 2 2] (w.alloc (.cells #[.int .i64 (hi64 x), .int .u64 (lo64 x), .int .i64 (hi64 y), .int .u64 (lo64 y)] 86)) fun e w' => e = .returned (.tuple #[.agg #[.int .i64 (hi64 (x + y)), .int .u64 (lo64 (x + y))], .int .i64 0]) ∧ Grew (w.alloc (.cells #[.int .i64 (hi64 x), .int .u64 (lo64 x), .int .i64 (hi64 y), .int .u64 (lo64 y)] 86)) w' := by
  have C := wsum_any (some ⟨N, 0, none⟩) 2 2 [x, y] _ (wides2 w x y 86 N hN) (by simp [hx, hy]) (by omega)
  have e : [x, y].sum = x + y := by simp
  rw [e, wsV, if_pos hs, wideE, if_pos hs] at C
  exact C

set_option maxRecDepth 100000 in
set_option maxHeartbeats 1000000 in
theorem plus_any (x y : Int) (w : World) (hx : isWide x = true) (hy : -9223372036854775808 ≤ y ∧ y ≤ 9223372036854775807) (hs : isWide (x + y) = true) :
    Calls Try.prog 59 #[.agg #[.int .i64 (hi64 x), .int .u64 (lo64 x)], .int .i64 y] w fun e w' => e = .returned (.agg #[.int .i64 (hi64 (x + y)), .int .u64 (lo64 (x + y))]) ∧ Grew w w' := by
  have C1 := fun w => wof_any y w hy
  have C2 := fun w N hN => sum2 x y w N hN hx (by rw [isWide_iff]; omega) hs
  clear hx hy hs
  generalize hi64 x = a1 at *
  generalize lo64 x = a2 at *
  generalize hi64 y = b1 at *
  generalize lo64 y = b2 at *
  generalize hi64 (x + y) = c1 at *
  generalize lo64 (x + y) = c2 at *
  go_enter Try.func59, Try.ntmps59
  go_wp2
  have HO : Hid (Own2 ((w.alloc (.cells #[.int .i64 a1, .int .u64 a2] 86)).alloc (.cells #[.int .i64 0, .int .u64 0] 86)) w.heap.size (.int .i64 a1) (.int .u64 a2)) := (Own2.new w _ _ _ _ rfl).keep (grew_alloc _ _ _)
  have HP : Hid (Own2 ((w.alloc (.cells #[.int .i64 a1, .int .u64 a2] 86)).alloc (.cells #[.int .i64 0, .int .u64 0] 86)) (w.heap.size + 1) (.int .i64 0) (.int .u64 0)) := Own2.new _ _ _ _ _ (by simp)
  have HG : Hid (Grew w ((w.alloc (.cells #[.int .i64 a1, .int .u64 a2] 86)).alloc (.cells #[.int .i64 0, .int .u64 0] 86))) := grew_trans (grew_alloc _ _ _) (grew_alloc _ _ _)
  generalize hw1 : (w.alloc (.cells #[.int .i64 a1, .int .u64 a2] 86)).alloc (.cells #[.int .i64 0, .int .u64 0] 86) = w1 at HO HP HG ⊢
  clear hw1
  have q1 := HO.out.c0
  have q2 := HO.out.c1
  go_region_with (first
    | (go_at_call 66; ((with_reducible refine (C1 _).mono ?_); rintro e w2 ⟨rfl, hg2⟩; have k0 := HO.out.keep (grew_trans (grew_drew (grew_refl _)) hg2); have q1' := k0.c0; have q2' := k0.c1))
    | (go_at_call 65; ((with_reducible refine (C2 _ _ rfl).mono ?_); rintro e w3 ⟨rfl, hg3⟩; have hgg : Grew w1 w3 := grew_trans (grew_drew (grew_refl _)) (grew_trans hg2 (grew_trans (grew_alloc _ _ _) hg3)); have k1 := HO.out.keep hgg; have q1'' := k1.c0; have q2'' := k1.c1; have q3'' := k1.f0; have q4'' := k1.f1; have q5'' := k1.lt)))
  all_goals
    have K2 := k1.set (.int .i64 c1) (.int .u64 c2)
    have P2 := ((HP.out.keep hgg).other ⟨w.heap.size, 0, none⟩ (.int .i64 c1) (by simp)).other ⟨w.heap.size, 1, none⟩ (.int .u64 c2) (by simp)
    have HG3 : Hid (Grew w ((w3.setCell ⟨w.heap.size, 0, none⟩ (.int .i64 c1)).setCell ⟨w.heap.size, 1, none⟩ (.int .u64 c2))) := grew_set (grew_set (grew_trans HG.out hgg) _ (Nat.le_refl _)) _ (Nat.le_refl _)
    clear q1 q2 q1' q2' q1'' q2'' q3'' q4'' q5'' k0 k1 hg2 hg3 hgg C1 C2
    generalize (w3.setCell ⟨w.heap.size, 0, none⟩ (.int .i64 c1)).setCell ⟨w.heap.size, 1, none⟩ (.int .u64 c2) = w4 at K2 P2 HG3 ⊢
    obtain ⟨r0, r1, r2, r3, r4⟩ := K2
    have s0 := P2.c0
    have s1 := P2.c1
    have s2 := P2.f0
    have s3 := P2.f1
    have P3 := Lib.hid (P2.set (.int .i64 c1) (.int .u64 c2))
    clear P2
    go_wp2
    have t0 := P3.out.c0
    have t1 := P3.out.c1
    exact bodyPost_ret (v := .agg #[.int .i64 c1, .int .u64 c2]) (by simp [results, Try.results59, go_sem, t0, t1]) rfl ⟨rfl, grew_set (grew_set HG3.out _ (by simp)) _ (by simp)⟩
end Go.Proofs.Ytafglljfgoeapaa.NumK
