/- The reference's Int (Ref01B's, over RefOf). -/
import Derived.Test.YtmlfijapglhjfaaRG3
import Derived.Deep.RegionHeld3
import Derived.Deep.RegionWith
namespace Go.Proofs.Ytmlfijapglhjfaa.NumK
open Go.RowKit

/-! ### Int: as money -/



set_option maxHeartbeats 1000000 in
theorem refInt_money (x : Int) (w : World) (h : isMoney x = true) :
    Calls Try.prog 30 #[(.agg #[.int .i64 (hi64 (x)), .int .u64 (lo64 (x))])] w fun e w' => e = .returned (.tuple #[.int .i64 (intV x), .bool (isMoney x)]) ∧ Grew w w' := by
  have hx := (isMoney_iff x).1 h
  have b1 := lo_bounds x
  have L : wrap64 (lo64 x) = x := by unfold wrap64 lo64; omega
  have C1 := fun w => of_any x w (by omega)
  have C2 := fun w => refRight_any x w
  rw [h] at C2
  have E1 := Lib.hid (intV_in h)
  have E2 := Lib.hid h
  clear h hx b1
  generalize hi64 x = hh at *
  generalize lo64 x = l at *
  go_enter Try.func30, Try.ntmps30
  go_wp2
  go_region_held3 (fun w' => w'.cell? ⟨w.heap.size, 0, none⟩ = some (.int .i64 hh) ∧ w'.cell? ⟨w.heap.size, 1, none⟩ = some (.int .u64 l) ∧ w.heap.size < w'.heap.size ∧ Grew w w')
    (first
      | (exact keep2 (by assumption) (by first | assumption | simp) (by first | assumption | simp) (by first | assumption | simp) (by first | assumption | exact grew_drew (grew_alloc _ _ _)))
      | (refine ⟨by simp, by simp, by simp, grew_drew (grew_alloc _ _ _)⟩))
    (first
      | (go_at_call 35; refine (C1 _).mono ?_; rintro e w1 ⟨rfl, hg1⟩)
      | (go_at_call 60; refine (C2 _).mono ?_; rintro e w2 ⟨rfl, rfl⟩))
  rename_i hS
  go_wp2
  go_ret2
  exact ⟨ret_vb E1.out.symm E2.out.symm, hS.2.2.2⟩

set_option maxHeartbeats 1000000 in
theorem refInt_far (x : Int) (w : World) (h : isMoney x = false) (hf : hi64 (wrap64 (lo64 x)) ≠ hi64 x) :
    Calls Try.prog 30 #[(.agg #[.int .i64 (hi64 (x)), .int .u64 (lo64 (x))])] w fun e w' => e = .returned (.tuple #[.int .i64 (intV x), .bool (isMoney x)]) ∧ Grew w w' := by
  have b1 := lo_bounds x
  have bn : -9223372036854775808 ≤ wrap64 (lo64 x) ∧ wrap64 (lo64 x) ≤ 9223372036854775807 := by unfold wrap64; omega
  have hl : lo64 (wrap64 (lo64 x)) = lo64 x := by unfold wrap64 lo64; omega
  have C1 := fun w => of_any (wrap64 (lo64 x)) w bn
  have E1 := Lib.hid (intV_out h)
  have E2 := Lib.hid h
  have d1 : (hi64 (wrap64 (lo64 x)) == hi64 x) = false := by simpa using hf
  have d2 : (hi64 (wrap64 (lo64 x)) != hi64 x) = true := by simpa using hf
  have d3 : decide (hi64 (wrap64 (lo64 x)) = hi64 x) = false := by simpa using hf
  rw [hl] at C1
  clear h b1 hl hf
  generalize hi64 (wrap64 (lo64 x)) = hn at *
  generalize hi64 x = hh at *
  generalize lo64 x = l at *
  go_enter Try.func30, Try.ntmps30
  go_wp2
  first
  | (go_region_with (first
      | (go_at_call 35; refine (C1 _).mono ?_; rintro e w1 ⟨rfl, hg1⟩; have kc := keep2 (v0 := .int .i64 hh) (v1 := .int .u64 l) hg1 (by simp) (by simp) (by simp) (grew_drew (grew_alloc _ _ _)); obtain ⟨k1, k2, k3, k4⟩ := kc)))
  | fail
  all_goals
    go_wp2
    go_ret2
    exact ⟨ret_vb E1.out.symm E2.out.symm, by assumption⟩

set_option maxHeartbeats 1000000 in
theorem refInt_near (x : Int) (w : World) (h : isMoney x = false) (L : wrap64 (lo64 x) = x) :
    Calls Try.prog 30 #[(.agg #[.int .i64 (hi64 (x)), .int .u64 (lo64 (x))])] w fun e w' => e = .returned (.tuple #[.int .i64 (intV x), .bool (isMoney x)]) ∧ Grew w w' := by
  have b1 := lo_bounds x
  have bn : -9223372036854775808 ≤ wrap64 (lo64 x) ∧ wrap64 (lo64 x) ≤ 9223372036854775807 := by unfold wrap64; omega
  rw [L] at bn
  have C1 := fun w => of_any x w bn
  have C2 := fun w => refRight_any x w
  rw [h] at C2
  have E1 := Lib.hid (intV_out h)
  have E2 := Lib.hid h
  clear h b1
  generalize hi64 x = hh at *
  generalize lo64 x = l at *
  go_enter Try.func30, Try.ntmps30
  go_wp2
  go_region_held3 (fun w' => w'.cell? ⟨w.heap.size, 0, none⟩ = some (.int .i64 hh) ∧ w'.cell? ⟨w.heap.size, 1, none⟩ = some (.int .u64 l) ∧ w.heap.size < w'.heap.size ∧ Grew w w')
    (first
      | (exact keep2 (by assumption) (by first | assumption | simp) (by first | assumption | simp) (by first | assumption | simp) (by first | assumption | exact grew_drew (grew_alloc _ _ _)))
      | (refine ⟨by simp, by simp, by simp, grew_drew (grew_alloc _ _ _)⟩))
    (first
      | (go_at_call 35; refine (C1 _).mono ?_; rintro e w1 ⟨rfl, hg1⟩)
      | (go_at_call 60; refine (C2 _).mono ?_; rintro e w2 ⟨rfl, rfl⟩))
  rename_i hS
  go_wp2
  go_ret2
  exact ⟨ret_vb E1.out.symm E2.out.symm, hS.2.2.2⟩

theorem refInt_any (x : Int) (w : World) :
    Calls Try.prog 30 #[(.agg #[.int .i64 (hi64 (x)), .int .u64 (lo64 (x))])] w fun e w' => e = .returned (.tuple #[.int .i64 (intV x), .bool (isMoney x)]) ∧ Grew w w' := by
  by_cases h : isMoney x = true
  · exact refInt_money x w h
  · simp only [Bool.not_eq_true] at h
    by_cases hf : hi64 (wrap64 (lo64 x)) = hi64 x
    · refine refInt_near x w h ?_
      have b1 := lo_bounds x
      have e1 := w_eq x
      have e2 := w_eq (wrap64 (lo64 x))
      have hl : lo64 (wrap64 (lo64 x)) = lo64 x := by unfold wrap64 lo64; omega
      rw [hf, hl] at e2
      omega
    · exact refInt_far x w h hf
end Go.Proofs.Ytmlfijapglhjfaa.NumK
namespace Go.Proofs.Ytmlfijapglhjfaa.NumK
open Go.RowKit

set_option maxRecDepth 100000 in
set_option maxHeartbeats 2000000 in
theorem refSum_any (A : Option Addr) (n c : Nat) (xs : List Int) (w : World) (hz : Wides w A n xs) (hw : ∀ x ∈ xs, isWide x = true) (hn : n ≤ 1000000) :
    Calls Try.prog 29 #[.slice A n c] w fun e w' => e = .returned (.tuple #[(.agg #[.int .i64 (hi64 (wsV xs.sum)), .int .u64 (lo64 (wsV xs.sum))]), .bool (isWide xs.sum)]) ∧ Grew w w' := by
  have HZ := Lib.hid hz
  have HW := Lib.hid hw
  clear hz hw
  go_enter Try.func29, Try.ntmps29
  go_wp2
  go_loop [4, 5, 6, 7] (fun t h l i => ∃ (k : Nat) (T H L : Int), k ≤ n ∧ i = .int .i64 k ∧ t = .int .i64 T ∧ h = .int .u64 H ∧ l = .int .u64 L ∧ Hid (T * 340282366920938463463374607431768211456 + H * 18446744073709551616 + L = (xs.take k).sum) ∧
      0 ≤ H ∧ H < 18446744073709551616 ∧ 0 ≤ L ∧ L < 18446744073709551616 ∧ -(k : Int) ≤ T ∧ T ≤ k) (fun _ _ _ i => n - (intOf i).toNat)
  case atStart => exact ⟨0, 0, 0, 0, Nat.zero_le _, rfl, rfl, rfl, rfl, rfl, by omega, by omega, by omega, by omega, by omega, by omega⟩
  case round =>
    obtain ⟨k, T, H, L, hk, rfl, rfl, rfl, rfl, HS, h0, h1, l0, l1, t0, t1⟩ := hrel
    by_cases hlt : k < n
    · obtain ⟨b, o, rfl, hb, hc⟩ := HZ.out.2 (by omega)
      obtain ⟨hc0, hc1⟩ := hc k hlt
      have hst := sum_take_succ xs k (by have := HZ.out.1; omega)
      have hwx : isWide (xs.getD k 0) = true := HW.out _ (by rw [List.getD_eq_getElem?_getD, List.getElem?_eq_getElem (by have := HZ.out.1; omega)]; exact List.getElem_mem _)
      generalize xs.getD k 0 = x at *
      have bx := lo_bounds x
      have bh := hi_bounds x hwx
      have ex := w_eq x
      obtain ⟨s1, hs1⟩ : ∃ s, s = (L + lo64 x + 0) % 18446744073709551616 := ⟨_, rfl⟩
      obtain ⟨d1, hd1⟩ : ∃ s, s = (L + lo64 x + 0) / 18446744073709551616 := ⟨_, rfl⟩
      have A1 := add64_named L (lo64 x) 0 s1 d1 (by omega) (by omega) (by omega) (by omega) hs1 hd1
      have ew : 0 ≤ IntKind.u64.wrap (hi64 x) ∧ IntKind.u64.wrap (hi64 x) < 18446744073709551616 ∧ (hi64 x < 0 → IntKind.u64.wrap (hi64 x) = hi64 x + 18446744073709551616) ∧ (0 ≤ hi64 x → IntKind.u64.wrap (hi64 x) = hi64 x) := by rw [IntKind.wrap_u64]; omega
      obtain ⟨s2, hs2⟩ : ∃ s, s = (H + IntKind.u64.wrap (hi64 x) + d1) % 18446744073709551616 := ⟨_, rfl⟩
      obtain ⟨d2, hd2⟩ : ∃ s, s = (H + IntKind.u64.wrap (hi64 x) + d1) / 18446744073709551616 := ⟨_, rfl⟩
      have A2 := add64_named H (IntKind.u64.wrap (hi64 x)) d1 s2 d2 (by omega) (by omega) (by omega) (by omega) hs2 hd2
      have f1 : 0 ≤ s1 ∧ s1 < 18446744073709551616 := by omega
      have f2 : 0 ≤ s2 ∧ s2 < 18446744073709551616 := by omega
      have f3 : 0 ≤ d2 ∧ d2 ≤ 1 := by omega
      have HN : Hid ((hi64 x < 0 → (T + d2 - 1) * 340282366920938463463374607431768211456 + s2 * 18446744073709551616 + s1 = (xs.take (k + 1)).sum) ∧ (0 ≤ hi64 x → (T + d2) * 340282366920938463463374607431768211456 + s2 * 18446744073709551616 + s1 = (xs.take (k + 1)).sum)) := by
        have := HS.out
        rw [hst]
        exact ⟨fun _ => by omega, fun _ => by omega⟩
      generalize eh : IntKind.u64.wrap (hi64 x) = hw at *
      clear hst hwx bx bh ex ew hs1 hd1 hs2 hd2 hc
      generalize hi64 x = hh at *
      generalize lo64 x = ll at *
      obtain ⟨f1, f2'⟩ := f1
      obtain ⟨f3', f4⟩ := f2
      obtain ⟨f5, f6⟩ := f3
      by_cases hs : hh < 0
      · go_wp2_with (first | simp only [A1] | simp only [A2])
        go_round
        case rel => exact ⟨k + 1, T + d2 - 1, s2, s1, by omega, by go_num, rfl, rfl, rfl, HN.out.1 hs, by omega, by omega, by omega, by omega, by omega, by omega⟩
        case measure => simp [intOf]; omega
      · go_wp2_with (first | simp only [A1] | simp only [A2])
        go_round
        case rel => exact ⟨k + 1, T + d2, s2, s1, by omega, by go_num, rfl, rfl, rfl, HN.out.2 (by omega), by omega, by omega, by omega, by omega, by omega, by omega⟩
        case measure => simp [intOf]; omega
    · have hkn : k = n := by omega
      subst hkn
      have ht : xs.take k = xs := List.take_of_length_le (by have := HZ.out.1; omega)
      have hS := HS.out
      rw [ht] at hS
      have hwr : wrap64 H = if H < 9223372036854775808 then H else H - 18446744073709551616 := by unfold wrap64; split <;> omega
      have hwid : isWide xs.sum = true ↔ (T = 0 ∧ H < 9223372036854775808) ∨ (T = -1 ∧ ¬ H < 9223372036854775808) := by rw [isWide_iff]; omega
      have hval : (T = 0 ∧ H < 9223372036854775808) ∨ (T = -1 ∧ ¬ H < 9223372036854775808) → wrap64 H = hi64 xs.sum ∧ L = lo64 xs.sum := fun h => by
        have := w_unique xs.sum (wrap64 H) L (by rw [hwr]; split <;> omega) l0 l1
        exact ⟨this.1.symm, this.2.symm⟩
      have hz0 : (0 : Int) = hi64 0 ∧ (0 : Int) = lo64 0 := by decide
      have HD := Lib.hid hwid
      have HV := Lib.hid hval
      have HZ0 := Lib.hid hz0
      have hg : (H < 9223372036854775808 → 0 ≤ wrap64 H) ∧ (¬ H < 9223372036854775808 → wrap64 H < 0) := by rw [hwr]; split <;> omega
      clear ht hS hwr hwid hval hz0 hlt t0 t1 h0 h1 l0 l1
      generalize eg : wrap64 H = g at *
      by_cases c1 : T = 0
      · subst c1
        by_cases c2 : H < 9223372036854775808
        · have Y := Lib.hid (HD.out.2 (Or.inl ⟨rfl, c2⟩))
          have V := Lib.hid (HV.out (Or.inl ⟨rfl, c2⟩))
          have hh := hg.1 c2
          clear hg c2
          go_wp2
          exact bodyPost_ret (v := .tuple #[.agg #[.int .i64 g, .int .u64 L], .bool true]) (by simp [results, Try.results29, go_sem]) rfl ⟨ret_wb (by rw [wsV, if_pos Y.out]; exact V.out.1) (by rw [wsV, if_pos Y.out]; exact V.out.2) Y.out.symm, grew_alloc _ _ _⟩
        · have Y : Hid (isWide xs.sum = false) := by show _ = _; rw [← Bool.not_eq_true, HD.out]; omega
          have hh := hg.2 c2
          clear hg c2
          go_wp2
          exact bodyPost_ret (v := .tuple #[.agg #[.int .i64 0, .int .u64 0], .bool false]) (by simp [results, Try.results29, go_sem]) rfl ⟨ret_wb (by rw [wsV, Y.out]; exact HZ0.out.1) (by rw [wsV, Y.out]; exact HZ0.out.2) Y.out.symm, grew_alloc _ _ _⟩
      · have d1 : (T == 0) = false := by simpa using c1
        by_cases c3 : T = -1
        · subst c3
          by_cases c2 : H < 9223372036854775808
          · have Y : Hid (isWide xs.sum = false) := by show _ = _; rw [← Bool.not_eq_true, HD.out]; omega
            have hh := hg.1 c2
            clear hg c2 c1
            go_wp2
            exact bodyPost_ret (v := .tuple #[.agg #[.int .i64 0, .int .u64 0], .bool false]) (by simp [results, Try.results29, go_sem]) rfl ⟨ret_wb (by rw [wsV, Y.out]; exact HZ0.out.1) (by rw [wsV, Y.out]; exact HZ0.out.2) Y.out.symm, grew_alloc _ _ _⟩
          · have Y := Lib.hid (HD.out.2 (Or.inr ⟨rfl, c2⟩))
            have V := Lib.hid (HV.out (Or.inr ⟨rfl, c2⟩))
            have hh := hg.2 c2
            clear hg c2 c1
            go_wp2
            exact bodyPost_ret (v := .tuple #[.agg #[.int .i64 g, .int .u64 L], .bool true]) (by simp [results, Try.results29, go_sem]) rfl ⟨ret_wb (by rw [wsV, if_pos Y.out]; exact V.out.1) (by rw [wsV, if_pos Y.out]; exact V.out.2) Y.out.symm, grew_alloc _ _ _⟩
        · have Y : Hid (isWide xs.sum = false) := by show _ = _; rw [← Bool.not_eq_true, HD.out]; omega
          have d2 : (T == -1) = false := by simpa using c3
          clear hg c1 c3
          go_wp2
          exact bodyPost_ret (v := .tuple #[.agg #[.int .i64 0, .int .u64 0], .bool false]) (by simp [results, Try.results29, go_sem]) rfl ⟨ret_wb (by rw [wsV, Y.out]; exact HZ0.out.1) (by rw [wsV, Y.out]; exact HZ0.out.2) Y.out.symm, grew_alloc _ _ _⟩
end Go.Proofs.Ytmlfijapglhjfaa.NumK
