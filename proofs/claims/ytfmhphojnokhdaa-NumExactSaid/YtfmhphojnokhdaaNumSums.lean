/- The walk of NumSums over the contracts of num. -/
import Derived.Test.YtfmhphojnokhdaaNumOrder
import Derived.Test.YtfmhphojnokhdaaMem
namespace Go.Proofs.Ytfmhphojnokhdaa.NumK
open Go.RowKit

theorem sumV_rev (zs : List Int) : sumV zs.reverse = sumV zs := by unfold sumV; rw [List.all_reverse, List.sum_reverse]
theorem sumE_rev (zs : List Int) : sumE zs.reverse = sumE zs := by unfold sumE; rw [List.all_reverse, List.sum_reverse]

theorem ok_of {zs : List Int} (h : sumE zs = 0) : zs.all isMoney = true ∧ isMoney zs.sum = true ∧ sumV zs = zs.sum := by
  unfold sumE at h
  unfold sumV
  split at h
  · rename_i hm
    unfold capE at h
    split at h
    · rename_i hq; exact ⟨hm, hq, by rw [if_pos hm, capV, if_pos hq]⟩
    · omega
  · omega
theorem sum_two {l m : List Int} (h1 : sumE l = 0) (h2 : sumE m = 0) : sumV [sumV l, sumV m] = sumV (l ++ m) ∧ sumE [sumV l, sumV m] = sumE (l ++ m) := by
  obtain ⟨a1, b1, c1⟩ := ok_of h1
  obtain ⟨a2, b2, c2⟩ := ok_of h2
  rw [c1, c2]
  have e1 : [l.sum, m.sum].all isMoney = true := by simp [b1, b2]
  have e2 : (l ++ m).all isMoney = true := by rw [List.all_append, a1, a2]; rfl
  rw [sumV_in e1, sumE_in e1, sumV_in e2, sumE_in e2, List.sum_append]
  simp
theorem sum_back {a b : Int} (h : sumE [a, b] = 0) : sumV [sumV [a, b], -b] = a ∧ sumE [sumV [a, b], -b] = 0 := by
  obtain ⟨a1, b1, c1⟩ := ok_of h
  rw [c1]
  simp only [List.all_cons, List.all_nil, Bool.and_eq_true, isMoney_iff] at a1
  have hs : [a, b].sum = a + b := by simp
  rw [hs] at b1 ⊢
  rw [isMoney_iff] at b1
  have e1 : [a + b, -b].all isMoney = true := by simp [isMoney]; omega
  have e2 : [a + b, -b].sum = a := by simp; omega
  rw [sumV_in e1, sumE_in e1, e2]
  exact ⟨capV_in ((isMoney_iff a).2 (by omega)), capE_in ((isMoney_iff a).2 (by omega))⟩

theorem take_rev_succ (zs : List Int) (k : Nat) (h : k < zs.length) : (zs.reverse).take k ++ [zs.getD (zs.length - 1 - k) 0] = zs.reverse.take (k + 1) := by
  rw [List.take_succ_eq_append_getElem (by simpa using h)]
  congr 2
  rw [List.getElem_reverse]
  simp [List.getD]
  rw [List.getElem?_eq_getElem (by omega)]
  simp

set_option maxRecDepth 100000 in
set_option maxHeartbeats 2000000 in
theorem numSums_small (A : Option Addr) (n c : Nat) (l : List Int) (A2 : Option Addr) (n2 c2 : Nat) (m : List Int) (a b : Int) (w : World)
    (hA : A = none → c = 0) (hl : Ints w A n l) (hA2 : A2 = none → c2 = 0) (hm : Ints w A2 n2 m) (hn : n ≤ 2000) (hn2 : n2 ≤ 2000)
    (hb : -9223372036854775808 ≤ b ∧ b ≤ 9223372036854775807) :
    Calls Try.prog 4 #[.slice A n c, .slice A2 n2 c2, .int .i64 a, .int .i64 b] w fun e w' => e = .returned (.bool true) ∧ Grew w w' := by
  have HL := Lib.hid hl
  have HM := Lib.hid hm
  have HA := Lib.hid hA
  have HA2 := Lib.hid hA2
  have s1 := sum_any A n c l w hl (by omega)
  clear hl hm hA hA2
  go_enter Try.func4, Try.ntmps4
  go_wp2_with (go_at_call 10; ((with_reducible refine s1.mono ?_); rintro e w1 ⟨rfl, hg1⟩))
  go_loopw [11, 12] (fun v i wr => ∃ k : Nat, k ≤ n ∧ i = .int .i64 ((n : Int) - 1 - k) ∧ wr.ownsRow w1.heap.size 3 1 v k ((l.reverse.take k).map (Value.int .i64)) ∧ Below w1.heap.size w1 wr) (fun _ i _ => (intOf i + 1).toNat)
  case atStart => exact ⟨0, Nat.zero_le _, by simp, by simpa using World.ownsRow_nil _ _ _ _, Below.refl _ _⟩
  case round =>
    obtain ⟨k, hk, rfl, hown, hbel⟩ := hrel
    by_cases hlt : k < n
    · obtain ⟨j, hj⟩ : ∃ j : Nat, n = k + 1 + j := ⟨n - k - 1, by omega⟩
      have hi : (n : Int) - 1 - k = (j : Int) := by omega
      obtain ⟨b0, o0, rfl, hb0, hc⟩ := HL.out.2 (by omega)
      have hcell : wr.cell? ⟨b0, o0 + j, none⟩ = some (.int .i64 (l.getD j 0)) := by
        rw [← hc j (by omega)]
        exact (hbel.cell (p := ⟨b0, o0 + j, none⟩) (Nat.lt_of_lt_of_le hb0 hg1.size)).trans (grew_cell hg1 (p := ⟨b0, o0 + j, none⟩) hb0)
      have hx := take_rev_succ l k (by have := HL.out.1; omega)
      have ej : l.length - 1 - k = j := by have := HL.out.1; omega
      rw [ej] at hx
      have hj2 : j < n := by omega
      have HX := Lib.hid hx
      have HJ := Lib.hid hj
      have HO := Lib.hid hown
      have HB := Lib.hid hbel
      clear hx hj hc ej hown hbel
      rw [hi]
      generalize l.getD j 0 = y at *
      go_wp2_with (at_builtin; refine wpList_append_ints rfl _ _ rfl w1.heap.size _ k _ rfl (HO.out.alloc _) (some ⟨wr.heap.size, 0, none⟩) 1 1 [y] rfl (by intro h; cases h) (ints1 _ _ _) (by omega) (by have := HB.out.size; simp; omega) ?_; intro v' w' hv hb')
      go_roundw
      case rel =>
        refine ⟨k + 1, by omega, by go_num, ?_, ?_⟩
        · rw [← HX.out]; exact hv
        · exact (HB.out.alloc HB.out.size _).trans hb'
      case measure => simp [intOf]
    · have : k = n := by omega
      subst this
      have hi : (k : Int) - 1 - k = -1 := by omega
      rw [hi]
      have hr : l.reverse.take k = l.reverse := List.take_of_length_le (by have := HL.out.1; simp; omega)
      rw [hr] at hown
      obtain ⟨A3, c3, rfl, hI3, _⟩ := ints_of_own hown
      have s2 := sum_any A3 k c3 l.reverse wr hI3 (by omega)
      rw [sumV_rev, sumE_rev] at s2
      have HI3 := Lib.hid hI3
      have hwr : Grew w1 wr := hbel
      have HWR := Lib.hid hwr
      have s3 := fun w' (g : Grew w w') => sum_any A2 n2 c2 m w' (HM.out.keep g) (by omega)
      have HS3 := Lib.hid s3
      clear hr hown hI3 hbel hwr s3 hi
      go_upto_region 13 with (first
        | (go_at_call 10; ((with_reducible refine s2.mono ?_); rintro e w2 ⟨rfl, hg2⟩))
        | (go_at_call 10; ((with_reducible refine (HS3.out _ (grew_trans hg1 (grew_trans HWR.out hg2))).mono ?_); rintro e w3 ⟨rfl, hg3⟩)))
      go_upto_region 14 with (first
        | (at_builtin; refine wpList_append_ints rfl _ _ rfl w3.heap.size _ 0 [] rfl (own_empty w3 _ _ (Nat.le_refl _)) A k c l rfl HA.out (HL.out.keep (grew_trans (grew_trans hg1 (grew_trans HWR.out hg2)) (grew_trans hg3 (grew_alloc _ _ _)))) (by omega) (by simp) ?_; intro v1 w4 hv1 hb4; rw [Nat.zero_add, List.nil_append] at hv1; have HV1 := Lib.hid hv1; have G4 : Hid (Grew w3 w4) := Below.trans (grew_alloc w3 _ _) hb4; clear hv1 hb4)
        | (at_builtin; refine (wpList_append_ints rfl _ _ rfl w3.heap.size v1 k l rfl HV1.out A2 n2 c2 m rfl HA2.out (HM.out.keep (grew_trans (grew_trans hg1 (grew_trans HWR.out hg2)) (grew_trans hg3 G4.out))) (by omega) G4.out.size ?_); intro v2 w5 hv2 hb5; have G5 : Hid (Grew w3 w5) := Below.trans G4.out hb5; obtain ⟨A5, c5, rfl, hI5, _⟩ := ints_of_own hv2; have HI5 := Lib.hid hI5; clear hv2 hI5 hb5)
        | (go_at_call 10; ((with_reducible refine (sum_any A5 _ c5 _ _ HI5.out (by omega)).mono ?_); rintro e w6 ⟨rfl, hg6⟩)))
      go_cut [10, 14, 82] (fun s10 s14 s82 wx => s82 = .bool (decide (sumE l = 0) && decide (sumE m = 0)) ∧ w6 = wx)
      case first =>
        go_wp2_with fail
        all_goals
          go_meet
          go_light
          case rel =>
            refine ⟨congrArg Value.bool ?_, rfl⟩
            first | (simp_all; done) | (simp_all; rfl)
      case rest =>
        obtain ⟨rfl, rfl⟩ := hcut
        have hbb : (decide (sumE l = 0) && decide (sumE m = 0)) = true → sumE l = 0 ∧ sumE m = 0 := by simp
        have HBB := Lib.hid hbb
        clear hbb
        generalize (decide (sumE l = 0) && decide (sumE m = 0)) = bb at *
        go_upto_if 82 with fail
        go_cut [82] (fun s82 wx => Grew w6 wx)
        case first =>
          cases bb with
          | false =>
            go_wp2
            go_meet
            case rel => exact grew_refl _
          | true =>
            obtain ⟨q1, q2⟩ := HBB.out rfl
            obtain ⟨q3, q4⟩ := sum_two q1 q2
            have s5 := sum2_at (sumV l) (sumV m) _ _ q3 q4
            clear q1 q2 q3 q4
            go_wp2_with (go_at_call 10; ((with_reducible refine (s5 _).mono ?_); rintro e w7 ⟨rfl, hg7⟩))
            go_meet
            case rel => exact grew_trans (grew_alloc _ _ _) hg7
        case rest =>
          by_cases he : sumE [a, b] = 0
          · obtain ⟨q1, q2⟩ := sum_back he
            have s6 := sum2_at a b _ 0 rfl he
            have bd := ok_of he
            have hm7 := (isMoney_iff _).1 bd.2.1
            rw [← bd.2.2] at hm7
            have s7 := less_at (sumV [a, b]) b a 0 q1 q2 (by omega) (by omega)
            clear q1 q2 he bd
            generalize sumV [a, b] = v9 at *
            go_wp2_with (first
              | (go_at_call 10; ((with_reducible refine (s6 _).mono ?_); rintro e w8 ⟨rfl, hg8⟩))
              | (go_at_call 13; ((with_reducible refine (s7 _).mono ?_); rintro e w9 ⟨rfl, hg9⟩))
              | (go_at_call 19; ((with_reducible refine (wakes_any _).mono ?_); rintro e w10 ⟨rfl, hg10⟩)))
            go_ret
            exact ⟨rfl, grew_trans hg1 (grew_trans HWR.out (grew_trans hg2 (grew_trans hg3 (grew_trans G5.out (grew_trans hg6 (grew_trans hcut (grew_trans (grew_alloc _ _ _) (grew_trans hg8 (grew_trans hg9 hg10)))))))))⟩
          · have s6 := sum2_at a b _ _ rfl rfl
            have he2 : (sumE [a, b] == 0) = false := by simpa using he
            clear he
            generalize sumV [a, b] = v9 at *
            generalize sumE [a, b] = e9 at *
            go_wp2_with (first
              | (go_at_call 10; ((with_reducible refine (s6 _).mono ?_); rintro e w8 ⟨rfl, hg8⟩))
              | (go_at_call 19; ((with_reducible refine (wakes_any _).mono ?_); rintro e w10 ⟨rfl, hg10⟩)))
            go_ret
            exact ⟨rfl, grew_trans hg1 (grew_trans HWR.out (grew_trans hg2 (grew_trans hg3 (grew_trans G5.out (grew_trans hg6 (grew_trans hcut (grew_trans (grew_alloc _ _ _) (grew_trans hg8 hg10))))))))⟩

set_option maxRecDepth 100000 in
theorem numSums_big (A : Option Addr) (n c : Nat) (A2 : Option Addr) (n2 c2 : Nat) (a b : Int) (w : World)
    (hn : n ≤ 9223372036854775807) (hn2 : n2 ≤ 9223372036854775807) (h : 2000 < n ∨ 2000 < n2) :
    Calls Try.prog 4 #[.slice A n c, .slice A2 n2 c2, .int .i64 a, .int .i64 b] w fun e w' => e = .returned (.bool true) ∧ Grew w w' := by
  by_cases h1 : 2000 < n
  · have d1 : decide (2000 < (n : Int)) = true := by simp; omega
    clear h
    go_enter Try.func4, Try.ntmps4
    go_wp2
    go_ret
    exact ⟨rfl, grew_refl _⟩
  · have h2 : 2000 < n2 := by omega
    have d1 : decide (2000 < (n : Int)) = false := by simp; omega
    have d2 : decide (2000 < (n2 : Int)) = true := by simp; omega
    clear h
    go_enter Try.func4, Try.ntmps4
    go_wp2
    go_ret
    exact ⟨rfl, grew_refl _⟩

theorem numSums_walk (A : Option Addr) (n c : Nat) (l : List Int) (A2 : Option Addr) (n2 c2 : Nat) (m : List Int) (a b : Int) (w : World)
    (hl : Ints w A n l) (hA : A = none → c = 0) (hn : n ≤ 9223372036854775807) (hm : Ints w A2 n2 m) (hA2 : A2 = none → c2 = 0) (hn2 : n2 ≤ 9223372036854775807)
    (hb : -9223372036854775808 ≤ b ∧ b ≤ 9223372036854775807) :
    Calls Try.prog 4 #[.slice A n c, .slice A2 n2 c2, .int .i64 a, .int .i64 b] w fun e w' => e = .returned (.bool true) ∧ Grew w w' := by
  by_cases h : n ≤ 2000 ∧ n2 ≤ 2000
  · exact numSums_small A n c l A2 n2 c2 m a b w hA hl hA2 hm h.1 h.2 hb
  · exact numSums_big A n c A2 n2 c2 a b w hn hn2 (by omega)
end Go.Proofs.Ytfmhphojnokhdaa.NumK
