/- The walk of WideMany. -/
import Derived.Test.YtebnnhlcmfjokaaWideSums
import Derived.Test.YtebnnhlcmfjokaaWideExact
import Derived.Deep.CutBlock
namespace Go.Proofs.Ytebnnhlcmfjokaa.NumK
open Go.RowKit

theorem wideMany_big (A : Option Addr) (n c : Nat) (at' : Int) (w : World) (hn : n ≤ 9223372036854775807) (h : 2000 < n) :
    Calls Try.prog 9 #[.slice A n c, .int .i64 at'] w fun e w' => e = .returned (.bool true) ∧ Grew w w' := by
  have d1 : decide (2000 < (n : Int)) = true := by simp; omega
  clear h
  go_enter Try.func9, Try.ntmps9
  go_wp2
  go_ret
  exact ⟨rfl, grew_refl _⟩

theorem Wides.take {w : World} {A : Option Addr} {n K : Nat} {xs : List Int} (h : Wides w A n xs) (hK : K ≤ n) : Wides w A K (xs.take K) := by
  refine ⟨by have := h.1; simp; omega, fun hp => ?_⟩
  obtain ⟨b, o, e, hb, hc⟩ := h.2 (by omega)
  refine ⟨b, o, e, hb, fun j hj => ?_⟩
  have ex : (xs.take K).getD j 0 = xs.getD j 0 := by simp [List.getD, hj]
  rw [ex]
  exact hc j (by omega)
theorem Wides.drop {w : World} {b o n K : Nat} {xs : List Int} (h : Wides w (some ⟨b, o, none⟩) n xs) (hK : K ≤ n) : Wides w (some ⟨b, o + K * 2, none⟩) (n - K) (xs.drop K) := by
  refine ⟨by have := h.1; simp; omega, fun hp => ?_⟩
  obtain ⟨b', o', e, hb, hc⟩ := h.2 (by omega)
  cases e
  refine ⟨b, o + K * 2, rfl, hb, fun j hj => ?_⟩
  have ex : (xs.drop K).getD j 0 = xs.getD (K + j) 0 := by simp [List.getD, List.getElem?_drop]
  have hc' := hc (K + j) (by omega)
  rw [ex, show o + K * 2 + j * 2 = o + (K + j) * 2 by omega]
  exact hc'
theorem Wides.drop' {w : World} {ad : Addr} {n K : Nat} {xs : List Int} (h : Wides w (some ad) n xs) (hK : K ≤ n) : Wides w (some (ad.add (K * 2))) (n - K) (xs.drop K) := by
  by_cases h0 : n - K = 0
  · exact ⟨by have := h.1; simp; omega, fun hp => absurd hp (by omega)⟩
  · obtain ⟨b, o, e, hb, hc⟩ := h.2 (by omega)
    cases e
    rw [show (⟨b, o, none⟩ : Addr).add (K * 2) = ⟨b, o + K * 2, none⟩ from by unfold Addr.add; split <;> simp_all]
    exact h.drop hK
theorem Wides.none_left {w : World} {A : Option Addr} {n K : Nat} {xs : List Int} (h : xs.length = n) (h0 : n - K = 0) : Wides w A (n - K) (xs.drop K) := ⟨by simp; omega, fun hp => absurd hp (by omega)⟩
theorem take_drop_sum (K : Nat) (xs : List Int) : (xs.take K).sum + (xs.drop K).sum = xs.sum := by rw [← List.sum_append, List.take_append_drop]
theorem pick_at (at' : Int) (n : Nat) (hn : n ≤ 2000) : ∃ K : Nat, wrap64 ((IntKind.u64.wrap at').tmod ((n : Int) + 1)) = (K : Int) ∧ K ≤ n := by
  have u0 : 0 ≤ IntKind.u64.wrap at' := by rw [IntKind.wrap_u64]; omega
  have t0 := Int.tmod_nonneg (a := IntKind.u64.wrap at') ((n : Int) + 1) u0
  have t1 := Int.tmod_lt_of_pos (IntKind.u64.wrap at') (show (0 : Int) < (n : Int) + 1 by omega)
  generalize (IntKind.u64.wrap at').tmod ((n : Int) + 1) = T at *
  refine ⟨T.toNat, ?_, by omega⟩
  unfold wrap64
  omega
theorem rev_at (xs : List Int) (j : Nat) (h : j < xs.length) : xs.reverse.getD (xs.length - (j + 1)) 0 = xs.getD j 0 := by
  rw [List.getD_eq_getElem?_getD, List.getElem?_reverse (by omega), List.getD_eq_getElem?_getD]
  congr 2
  omega
theorem take_rev_succ (xs : List Int) (n j : Nat) (hn : xs.length = n) (h : j < n) : xs.reverse.take (n - (j + 1)) ++ [xs.getD j 0] = xs.reverse.take (n - j) := by
  have := take_map_succ xs.reverse (n - (j + 1)) (by simp; omega)
  rw [show n - (j + 1) + 1 = n - j by omega] at this
  rw [← this]
  subst hn
  rw [rev_at xs j h]

set_option maxHeartbeats 2000000 in
set_option maxRecDepth 100000 in
theorem wideMany_small (A : Option Addr) (n c : Nat) (xs : List Int) (at' : Int) (w : World) (hz : Wides w A n xs) (hw : ∀ x ∈ xs, isWide x = true) (hn : n ≤ 2000) (hA : A = none → c = 0) (hnc : n ≤ c) :
    Calls Try.prog 9 #[.slice A n c, .int .i64 at'] w fun e w' => e = .returned (.bool true) ∧ Grew w w' := by
  have HZ := Lib.hid hz
  have C1 := wsum_any A n c xs w hz hw (by omega)
  have HW := Lib.hid hw
  clear hz hw
  go_enter Try.func9, Try.ntmps9
  go_upto_region 4 with (go_at_call 23; ((with_reducible refine C1.mono ?_); rintro e w1 ⟨rfl, hg1⟩))
  have hk1 := own_at (grew_refl (w1.alloc (.cells #[.int .i64 (hi64 (wsV xs.sum)), .int .u64 (lo64 (wsV xs.sum))] 24)))
  have gb := grew_trans hg1 (grew_alloc w1 #[.int .i64 (hi64 (wsV xs.sum)), .int .u64 (lo64 (wsV xs.sum))] 24)
  generalize w1.alloc (.cells #[.int .i64 (hi64 (wsV xs.sum)), .int .u64 (lo64 (wsV xs.sum))] 24) = wb at hk1 gb ⊢
  have HK1 := Lib.hid hk1
  have GB := Lib.hid gb
  clear hk1 gb hg1 C1
  go_upto_block 0 with fail
  go_cut [7] (fun v wx => ∃ Av cv, v = .slice Av n cv ∧ Hid (Wides wx Av n xs.reverse) ∧ Hid (Grew wb wx))
  case first =>
    go_wp2_with fail
    go_loopw [7, 8] (fun v i wr => ∃ j : Nat, j ≤ n ∧ i = .int .i64 ((j : Int) - 1) ∧ wr.ownsRow wb.heap.size 24 2 v (n - j) ((xs.reverse.take (n - j)).flatMap wcells) ∧ Below wb.heap.size wb wr) (fun _ i _ => (intOf i + 1).toNat)
    case atStart => exact ⟨n, Nat.le_refl _, rfl, by simpa using World.ownsRow_nil _ _ _ _, Below.refl _ _⟩
    case round =>
      obtain ⟨j, hj, rfl, hown, hbel⟩ := hrel
      by_cases h0 : j = 0
      · subst h0
        have ht : xs.reverse.take (n - 0) = xs.reverse := List.take_of_length_le (by have := HZ.out.1; simp; omega)
        rw [ht] at hown
        obtain ⟨A3, c3, rfl, hW⟩ := wides_of_own hown
        have HW3 := Lib.hid hW
        have HB := Lib.hid hbel
        clear hown hW hbel
        go_wp2_with fail
        go_meet
        case rel => exact ⟨A3, c3, rfl, HW3, HB⟩
      · obtain ⟨m, rfl⟩ : ∃ m, j = m + 1 := ⟨j - 1, by omega⟩
        have e : (((m + 1 : Nat) : Int) - 1) = (m : Int) := by omega
        rw [e]
        obtain ⟨b0, o0, rfl, hb0, hc⟩ := (HZ.out.keep (grew_trans GB.out hbel)).2 (by omega)
        obtain ⟨hc0, hc1⟩ := hc m (by omega)
        have HX := Lib.hid (take_rev_succ xs n m HZ.out.1 (by omega))
        have HO := Lib.hid hown
        have HBW := Lib.hid hbel
        clear hc hown hbel hA
        generalize xs.getD m 0 = y at *
        go_wp2_with (at_builtin; refine wpList_append_wide rfl _ _ rfl wb.heap.size _ (n - (m + 1)) _ rfl (own_keep HO.out (grew_alloc _ _ _)) wr.heap.size 1 y rfl (by simp) (by simp) (by omega) (Nat.le_trans HBW.out.size (by simp)) ?_; intro v' w' hv hb'; have HV := Lib.hid hv; have HB' := Lib.hid hb'; clear hv hb')
        go_roundw
        case rel =>
          refine ⟨m, by omega, by go_num, ?_, ?_⟩
          · rw [← HX.out, show n - m = n - (m + 1) + 1 by omega]; exact HV.out
          · exact (HBW.out.alloc HBW.out.size _).trans HB'.out
        case measure => simp [intOf]
  case rest =>
    obtain ⟨Av, cv, rfl, HV, HG⟩ := hcut
    have C2 := wsum_any Av n cv xs.reverse wc HV.out (fun x hx => HW.out x (List.mem_reverse.1 hx)) (by omega)
    rw [List.sum_reverse] at C2
    go_upto_region 10 with (go_at_call 23; ((with_reducible refine C2.mono ?_); rintro e w2 ⟨rfl, hg2⟩))
    have C3 := same_any (wsV xs.sum) (wsV xs.sum)
    rw [show decide (wsV xs.sum = wsV xs.sum) = true from decide_eq_true rfl] at C3
    obtain ⟨k1, k2, k3⟩ := HK1.out
    have gd : Grew wb (w2.alloc (.cells #[.int .i64 (hi64 (wsV xs.sum)), .int .u64 (lo64 (wsV xs.sum))] 24)) := grew_trans HG.out (grew_trans hg2 (grew_alloc _ _ _))
    have q0 := own_at (grew_refl (w2.alloc (.cells #[.int .i64 (hi64 (wsV xs.sum)), .int .u64 (lo64 (wsV xs.sum))] 24)))
    generalize w2.alloc (.cells #[.int .i64 (hi64 (wsV xs.sum)), .int .u64 (lo64 (wsV xs.sum))] 24) = wd at gd q0 ⊢
    have q1 := (grew_cell gd (p := ⟨w1.heap.size, 0, none⟩) k3).trans k1
    have q2 := (grew_cell gd (p := ⟨w1.heap.size, 1, none⟩) k3).trans k2
    obtain ⟨q3, q4, q5⟩ := q0
    clear k1 k2 k3 C2
    go_upto_region 12 with (go_at_call 10; ((with_reducible refine (C3 _).mono ?_); rintro e w3 ⟨rfl, hg3⟩))
    clear q1 q2 q3 q4 q5
    obtain ⟨K, eK, hK⟩ := pick_at at' n hn
    go_upto_region 13 with fail
    have e0 : wrap64 0 = 0 := by unfold wrap64; omega
    cases A with
    | none =>
      have hc0 := hA rfl
      subst hc0
      have hn0 : n = 0 := by omega
      subst hn0
      have hK0 : K = 0 := by omega
      subst hK0
      have hx0 : xs = [] := List.eq_nil_of_length_eq_zero HZ.out.1
      subst hx0
      have C4 := fun w => wsum_any none 0 0 [] w ⟨rfl, fun h => absurd h (by omega)⟩ (by simp) (by omega)
      have C7 := wsum2_at 0 0 0 0 0 rfl rfl rfl rfl rfl
      rw [show ([] : List Int).sum = 0 from rfl, show wsV 0 = 0 from rfl, show wideE 0 = 0 from rfl] at C4
      rw [show ([] : List Int).sum = 0 from rfl, show wsV 0 = 0 from rfl] at C3 HK1
      simp only [show ([] : List Int).sum = 0 from rfl, show wsV 0 = 0 from rfl, show wideE 0 = 0 from rfl] at *
      go_upto_region 14 with (go_at_call 23; ((with_reducible refine (C4 _).mono ?_); rintro e w4 ⟨rfl, hg4⟩))
      go_upto_region 15 with (go_at_call 23; ((with_reducible refine (C4 _).mono ?_); rintro e w5 ⟨rfl, hg5⟩))
      have n4 := own_at (w := w4) (t := 24) (v0 := .int .i64 (hi64 0)) (v1 := .int .u64 (lo64 0)) (grew_trans hg5 (grew_alloc w5 #[.int .i64 (hi64 0), .int .u64 (lo64 0)] 24))
      have n5 := own_at (grew_refl (w5.alloc (.cells #[.int .i64 (hi64 0), .int .u64 (lo64 0)] 24)))
      have g5 : Grew wd (w5.alloc (.cells #[.int .i64 (hi64 0), .int .u64 (lo64 0)] 24)) := grew_trans hg3 (grew_trans hg4 (grew_trans (grew_alloc _ _ _) (grew_trans hg5 (grew_alloc _ _ _))))
      generalize w5.alloc (.cells #[.int .i64 (hi64 0), .int .u64 (lo64 0)] 24) = we at n4 n5 g5 ⊢
      obtain ⟨n41, n42, n43⟩ := n4
      obtain ⟨n51, n52, n53⟩ := n5
      go_upto_region 18 with (go_at_call 23; ((with_reducible refine (C7 _).mono ?_); rintro e w6 ⟨rfl, hg6⟩))
      have g6 : Grew wb (w6.alloc (.cells #[.int .i64 (hi64 0), .int .u64 (lo64 0)] 24)) := grew_trans gd (grew_trans g5 (grew_trans (grew_alloc _ _ _) (grew_trans hg6 (grew_alloc _ _ _))))
      have n6 := own_at (grew_refl (w6.alloc (.cells #[.int .i64 (hi64 0), .int .u64 (lo64 0)] 24)))
      generalize w6.alloc (.cells #[.int .i64 (hi64 0), .int .u64 (lo64 0)] 24) = wf at n6 g6 ⊢
      obtain ⟨n61, n62, n63⟩ := n6
      obtain ⟨k1, k2, k3⟩ := HK1.out
      have q1 := (grew_cell g6 (p := ⟨w1.heap.size, 0, none⟩) k3).trans k1
      have q2 := (grew_cell g6 (p := ⟨w1.heap.size, 1, none⟩) k3).trans k2
      clear k1 k2 k3
      go_wp2_with (first
        | (go_at_call 10; ((with_reducible refine (C3 _).mono ?_); rintro e w7 ⟨rfl, hg7⟩))
        | (go_at_call 22; ((with_reducible refine (wakes02_any _).mono ?_); rintro e w8 ⟨rfl, hg8⟩)))
      go_ret
      exact ⟨rfl, grew_trans GB.out (grew_trans g6 (grew_trans hg7 hg8))⟩
    | some ad =>
      have hza := HZ.out.keep (grew_trans GB.out (grew_trans gd hg3))
      have C4 := wsum_any (some ad) K c (xs.take K) w3 (hza.take hK) (fun x hx => HW.out x (List.mem_of_mem_take hx)) (by omega)
      have C5 := fun w' (g : Grew w3 w') => wsum_any (some (ad.add (K * 2))) (n - K) (c - K) (xs.drop K) w' ((hza.keep g).drop' hK) (fun x hx => HW.out x (List.mem_of_mem_drop hx)) (by omega)
      have C6 := fun (h0 : n - K = 0) w' => wsum_any (some ad) (n - K) 0 (xs.drop K) w' (Wides.none_left HZ.out.1 h0) (fun x hx => HW.out x (List.mem_of_mem_drop hx)) (by omega)
      have hsum := take_drop_sum K xs
      have C7 := fun (h1 : wideE (xs.take K).sum = 0) (h2 : wideE (xs.drop K).sum = 0) => wsum2_at (xs.take K).sum (xs.drop K).sum xs.sum _ _ (wide_of_E h1) (wide_of_E h2) hsum rfl rfl
      have V1 : Hid (wideE (xs.take K).sum = 0 → wsV (xs.take K).sum = (xs.take K).sum) := fun h => wsV_in (wide_of_E h)
      have V2 : Hid (wideE (xs.drop K).sum = 0 → wsV (xs.drop K).sum = (xs.drop K).sum) := fun h => wsV_in (wide_of_E h)
      have O1 := Lib.hid (wideE_or (xs.take K).sum)
      have O2 := Lib.hid (wideE_or (xs.drop K).sum)
      clear hsum hza
      generalize wideE (xs.take K).sum = f1 at *
      generalize wideE (xs.drop K).sum = f2 at *
      go_upto_region 14 with (go_at_call 23; ((with_reducible refine C4.mono ?_); rintro e w4 ⟨rfl, hg4⟩))
      go_upto_region 15 with (first
        | (go_at_call 23; ((with_reducible refine (C5 _ (grew_trans hg4 (grew_alloc _ _ _))).mono ?_); rintro e w5 ⟨rfl, hg5⟩))
        | (go_at_call 23; ((with_reducible refine (C6 (by omega) _).mono ?_); rintro e w5 ⟨rfl, hg5⟩)))
      all_goals
        have n4 := own_at (w := w4) (t := 24) (v0 := .int .i64 (hi64 (wsV (xs.take K).sum))) (v1 := .int .u64 (lo64 (wsV (xs.take K).sum))) (grew_trans hg5 (grew_alloc w5 #[.int .i64 (hi64 (wsV (xs.drop K).sum)), .int .u64 (lo64 (wsV (xs.drop K).sum))] 24))
        have n5 := own_at (grew_refl (w5.alloc (.cells #[.int .i64 (hi64 (wsV (xs.drop K).sum)), .int .u64 (lo64 (wsV (xs.drop K).sum))] 24)))
        have g5 : Grew wd (w5.alloc (.cells #[.int .i64 (hi64 (wsV (xs.drop K).sum)), .int .u64 (lo64 (wsV (xs.drop K).sum))] 24)) := grew_trans hg3 (grew_trans hg4 (grew_trans (grew_alloc _ _ _) (grew_trans hg5 (grew_alloc _ _ _))))
        generalize w5.alloc (.cells #[.int .i64 (hi64 (wsV (xs.drop K).sum)), .int .u64 (lo64 (wsV (xs.drop K).sum))] 24) = we at n4 n5 g5 ⊢
        obtain ⟨n41, n42, n43⟩ := n4
        obtain ⟨n51, n52, n53⟩ := n5
        rcases O1.out with rfl | rfl
        · rcases O2.out with rfl | rfl
          · have C8 := C7 rfl rfl
            rw [V1.out rfl] at n41 n42
            rw [V2.out rfl] at n51 n52
            go_upto_region 18 with (go_at_call 23; ((with_reducible refine (C8 _).mono ?_); rintro e w6 ⟨rfl, hg6⟩))
            have g6 : Grew wb (w6.alloc (.cells #[.int .i64 (hi64 (wsV xs.sum)), .int .u64 (lo64 (wsV xs.sum))] 24)) := grew_trans gd (grew_trans g5 (grew_trans (grew_alloc _ _ _) (grew_trans hg6 (grew_alloc _ _ _))))
            have n6 := own_at (grew_refl (w6.alloc (.cells #[.int .i64 (hi64 (wsV xs.sum)), .int .u64 (lo64 (wsV xs.sum))] 24)))
            generalize w6.alloc (.cells #[.int .i64 (hi64 (wsV xs.sum)), .int .u64 (lo64 (wsV xs.sum))] 24) = wf at n6 g6 ⊢
            obtain ⟨n61, n62, n63⟩ := n6
            obtain ⟨k1, k2, k3⟩ := HK1.out
            have q1 := (grew_cell g6 (p := ⟨w1.heap.size, 0, none⟩) k3).trans k1
            have q2 := (grew_cell g6 (p := ⟨w1.heap.size, 1, none⟩) k3).trans k2
            clear k1 k2 k3
            go_wp2_with (first
              | (go_at_call 10; ((with_reducible refine (C3 _).mono ?_); rintro e w7 ⟨rfl, hg7⟩))
              | (go_at_call 22; ((with_reducible refine (wakes02_any _).mono ?_); rintro e w8 ⟨rfl, hg8⟩)))
            go_ret
            exact ⟨rfl, grew_trans GB.out (grew_trans g6 (grew_trans hg7 hg8))⟩
          · go_wp2_with (go_at_call 22; ((with_reducible refine (wakes02_any _).mono ?_); rintro e w8 ⟨rfl, hg8⟩))
            go_ret
            exact ⟨rfl, grew_trans GB.out (grew_trans gd (grew_trans g5 hg8))⟩
        · go_wp2_with (go_at_call 22; ((with_reducible refine (wakes02_any _).mono ?_); rintro e w8 ⟨rfl, hg8⟩))
          go_ret
          exact ⟨rfl, grew_trans GB.out (grew_trans gd (grew_trans g5 hg8))⟩

theorem wideMany_walk (A : Option Addr) (n c : Nat) (xs : List Int) (at' : Int) (w : World) (hz : Wides w A n xs) (hw : ∀ x ∈ xs, isWide x = true) (hn : n ≤ 9223372036854775807) (hA : A = none → c = 0) (hnc : n ≤ c) :
    Calls Try.prog 9 #[.slice A n c, .int .i64 at'] w fun e w' => e = .returned (.bool true) ∧ Grew w w' := by
  by_cases h : n ≤ 2000
  · exact wideMany_small A n c xs at' w hz hw h hA hnc
  · exact wideMany_big A n c at' w hn (by omega)
end Go.Proofs.Ytebnnhlcmfjokaa.NumK
