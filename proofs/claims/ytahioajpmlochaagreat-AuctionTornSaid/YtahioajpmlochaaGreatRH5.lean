/- The sort's symmetric merge: one element ahead of many. -/
import Derived.Test.YtahioajpmlochaaGreatRH1
import Derived.Test.YtahioajpmlochaaGreatRH4
namespace Go.Proofs.YtahioajpmlochaaGreat.NumK
open Go.RowKit

set_option maxRecDepth 100000 in
set_option maxHeartbeats 4000000 in
theorem symA_any (g : Nat) (cb : Array Value) (cf : Nat → Nat → Int) (f : Nat → Int) (blk n cap a b : Nat) (d : Nat → Nat) (w0 w : World) (eg : ∀ args w, (callFunc g args).run Tryz.prog w = .ok (.enter g args) w)
    (hC : CmpOK g cb cf f blk n w0) (hT : Turn blk w0 w) (hR : RowW w blk n d) (hd : ∀ k, k < n → d k < n) (hs2 : Sd f (a + 1) b d) (hx : Xs a (a + 1) b d) (hmb : a + 1 < b) (hb : b ≤ n) (hn : n ≤ 1000000) :
    Calls Tryz.prog 105 #[.slice (some ⟨blk, 0, none⟩) n cap, .int .i64 a, .int .i64 ((a : Int) + 1), .int .i64 b, .func (.func g) #[] cb] w (SortPost f blk n a b d w0) := by
  have HR := Lib.hid hR
  have HC := Lib.hid hC
  have HT := Lib.hid hT
  have HD := Lib.hid hd
  have HS := Lib.hid hs2
  have HX := Lib.hid hx
  clear hR hC hT hd hs2 hx
  have e1 : (((a : Int) + 1 - (a : Int)) == 1) = true := by simp; omega
  go_enter Tryz.func105, Tryz.ntmps105
  go_wp2
  clear e1
  go_loopw [10, 11] (fun vi vj wr => ∃ (i j : Nat), vi = .int .i64 i ∧ vj = .int .i64 j ∧ a + 1 ≤ i ∧ i ≤ j ∧ j ≤ b ∧ Bef f d a (a + 1) i ∧ Nbf f d a j b ∧ Hid (RowW wr blk n d) ∧ Hid (Turn blk w0 wr)) (fun vi vj _ => (intOf vj).toNat - (intOf vi).toNat)
  case atStart => exact ⟨a + 1, b, by go_num, rfl, by omega, by omega, by omega, fun k h1 h2 => by omega, fun k h1 h2 => by omega, HR, HT⟩
  case round =>
    clear HR HT
    obtain ⟨i, j, rfl, rfl, hi, hij, hj, HL, HG, HR, HT⟩ := hrel
    by_cases hlt : i < j
    · obtain ⟨h, hh⟩ : ∃ h, h = (i + j) / 2 := ⟨_, rfl⟩
      have h1 : i ≤ h := by omega
      have h2 : h < j := by omega
      have h3 : h < n := by omega
      have h4 : (h : Int) < (n : Int) := by omega
      have h5 : a < n := by omega
      have h6 : (a : Int) < (n : Int) := by omega
      have h7 : (0 : Int) ≤ (h : Int) := by omega
      have h8 : (0 : Int) ≤ (a : Int) := by omega
      have hq : ((i : Int) + (j : Int)) / 2 = (h : Int) := by omega
      have c1 := HR.out.all h (by omega)
      have c2 := HR.out.all a (by omega)
      have hc := HC.out.all HT.out (d h) (d a) (HD.out _ (by omega)) (HD.out _ (by omega))
      have hv := Lib.hid (HC.out.lt (d h) (d a))
      obtain ⟨x, hx⟩ : ∃ x, x = d h := ⟨_, rfl⟩
      obtain ⟨y, hy⟩ : ∃ y, y = d a := ⟨_, rfl⟩
      rw [← hx] at c1
      rw [← hy] at c2
      rw [← hx, ← hy] at hc hv
      have HX1 := Lib.hid hx
      have HY1 := Lib.hid hy
      have HH := Lib.hid hh
      clear hx hy hh
      generalize cf x y = c at *
      by_cases hl : c < 0
      · have hcd : decide (c < 0) = true := decide_eq_true hl
        go_wp2_with fail
        refine wp_region_grew (by kernel_rfl) (by kernel_rfl) ?_
        repeat (go_big_quiet_step (exact calls_grew (hc _)))
        refine wpQuiet_nil ?_
        intro w2 hw'
        have hg := grew_of hw'
        clear hw'
        have HR2 : Hid (RowW w2 blk n d) := HR.out.keep hg
        have HT2 : Hid (Turn blk w0 w2) := HT.out.grew hg
        clear c1 c2 hc HR HT hg hcd hq
        have HL2 : Bef f d a (a + 1) (h + 1) := by
          intro k k1 k2
          have hf : f (d a) < f (d h) := by rw [← HX1.out, ← HY1.out]; exact hv.out.1 hl
          by_cases c : k = h
          · rw [c]; exact hf
          · have := HS.out k h k1 (by omega) (by omega)
            unfold Ah at this; omega
        clear hv hl
        go_wp2
        go_roundw
        case rel => exact ⟨h + 1, j, by go_num, rfl, by omega, by omega, by omega, HL2, HG, HR2, HT2⟩
        case measure => simp only [intOf]; omega
      · have hcd : decide (c < 0) = false := decide_eq_false hl
        go_wp2_with fail
        refine wp_region_grew (by kernel_rfl) (by kernel_rfl) ?_
        repeat (go_big_quiet_step (exact calls_grew (hc _)))
        refine wpQuiet_nil ?_
        intro w2 hw'
        have hg := grew_of hw'
        clear hw'
        have HR2 : Hid (RowW w2 blk n d) := HR.out.keep hg
        have HT2 : Hid (Turn blk w0 w2) := HT.out.grew hg
        clear c1 c2 hc HR HT hg hcd hq
        have HG2 : Nbf f d a h b := by
          intro k k1 k2
          have hf : ¬ f (d a) < f (d h) := by rw [← HX1.out, ← HY1.out]; intro h9; have := hv.out.2 h9; omega
          by_cases c : k = h
          · rw [c]; exact hf
          · have := HS.out h k (by omega) (by omega) k2
            unfold Ah at this; omega
        clear hv hl
        go_wp2
        go_roundw
        case rel => exact ⟨i, h, rfl, rfl, by omega, by omega, by omega, HL, HG2, HR2, HT2⟩
        case measure => simp only [intOf]; omega
    · obtain rfl : i = j := by omega
      have HF : Hid (Sd f a b (shU d a (i - 1))) := shU_sorted HS.out HX.out (by omega) (by omega) HL HG
      have HM : Hid (Moves a b d (shU d a (i - 1))) := shU_moves d a (i - 1) b (by omega) (by omega)
      have HR2 : Hid (RowW wr blk n (shU d a a)) := by rw [shU_zero]; exact HR
      clear HL HG HR
      go_wp2
      go_loopw [13] (fun vk wr => ∃ (k : Nat), vk = .int .i64 k ∧ a ≤ k ∧ k ≤ i - 1 ∧ Hid (RowW wr blk n (shU d a k)) ∧ Hid (Turn blk w0 wr)) (fun vk _ => i - (intOf vk).toNat)
      case atStart => exact ⟨a, rfl, by omega, by omega, HR2, HT⟩
      case round =>
        clear HR2 HT
        obtain ⟨k, rfl, hk1, hk2, HR, HT⟩ := hrel
        by_cases hlt : k < i - 1
        · have HN := Lib.hid (shU_succ d a k hk1)
          generalize shU d a k = e at *
          have k1 : (k : Int) < (i : Int) - 1 := by omega
          have k2 : (k : Int) + 1 < (n : Int) := by omega
          have k3 : (k : Int) < (n : Int) := by omega
          have k4 : (0 : Int) ≤ (k : Int) := by omega
          have k5 : (0 : Int) ≤ (k : Int) + 1 := by omega
          have k6 : IntKind.i64.wrap ((k : Int) + 1) = (k : Int) + 1 := by rw [IntKind.wrap_i64]; omega
          have c1 := (HR.out.2 k (by omega)).1
          have c2 := (HR.out.2 (k + 1) (by omega)).1
          have m1 := (HR.out.2 k (by omega)).2
          have m2 := (HR.out.2 (k + 1) (by omega)).2
          have c3 := HR.out.two k (k + 1) (by omega) (by omega) (.int .i64 (e (k + 1)))
          have HS3 : Hid (RowW ((wr.setCell ⟨blk, k, none⟩ (.int .i64 (e (k + 1)))).setCell ⟨blk, k + 1, none⟩ (.int .i64 (e k))).drew blk n (sw e k (k + 1))) := HR.out.swap k (k + 1) (by omega) (by omega) (by omega)
          have HT3 : Hid (Turn blk w0 ((wr.setCell ⟨blk, k, none⟩ (.int .i64 (e (k + 1)))).setCell ⟨blk, k + 1, none⟩ (.int .i64 (e k))).drew) := ((HT.out.setCell k (.int .i64 (e (k + 1)))).setCell (k + 1) (.int .i64 (e k))).drew
          obtain ⟨x, hx⟩ : ∃ x, x = e k := ⟨_, rfl⟩
          obtain ⟨y, hy⟩ : ∃ y, y = e (k + 1) := ⟨_, rfl⟩
          rw [← hx] at c1
          rw [← hy] at c2 c3
          rw [← hx, ← hy] at HS3 HT3
          clear hx hy HR HT
          go_wp2_with fail
          go_big_region
          clear c1 c2 c3 m1 m2
          generalize ((wr.setCell ⟨blk, k, none⟩ (.int .i64 y)).setCell ⟨blk, k + 1, none⟩ (.int .i64 x)).drew = w3 at HS3 HT3 ⊢
          go_wp2
          go_roundw
          case rel => exact ⟨k + 1, by go_num, by omega, by omega, by rw [← HN.out]; exact HS3, HT3⟩
          case measure => simp only [intOf]; omega
        · obtain rfl : k = i - 1 := by omega
          go_wp2
          go_end0
          exact ⟨rfl, _, HM.out, HF.out, HR.out, HT.out⟩
end Go.Proofs.YtahioajpmlochaaGreat.NumK
namespace Go.Proofs.YtahioajpmlochaaGreat.NumK
open Go.RowKit

set_option maxRecDepth 100000 in
set_option maxHeartbeats 4000000 in
theorem symB_any (g : Nat) (cb : Array Value) (cf : Nat → Nat → Int) (f : Nat → Int) (blk n cap a m : Nat) (d : Nat → Nat) (w0 w : World) (eg : ∀ args w, (callFunc g args).run Tryz.prog w = .ok (.enter g args) w)
    (hC : CmpOK g cb cf f blk n w0) (hT : Turn blk w0 w) (hR : RowW w blk n d) (hd : ∀ k, k < n → d k < n) (hs2 : Sd f a m d) (hx : Xs a m (m + 1) d) (hmb : a + 1 < m) (hb : m + 1 ≤ n) (hn : n ≤ 1000000) :
    Calls Tryz.prog 105 #[.slice (some ⟨blk, 0, none⟩) n cap, .int .i64 a, .int .i64 m, .int .i64 ((m : Int) + 1), .func (.func g) #[] cb] w (SortPost f blk n a (m + 1) d w0) := by
  have HR := Lib.hid hR
  have HC := Lib.hid hC
  have HT := Lib.hid hT
  have HD := Lib.hid hd
  have HS := Lib.hid hs2
  have HX := Lib.hid hx
  clear hR hC hT hd hs2 hx
  have e1 : (((m : Int) - (a : Int)) == 1) = false := by simp; omega
  have e2 : (((m : Int) + 1 - (m : Int)) == 1) = true := by simp; omega
  go_enter Tryz.func105, Tryz.ntmps105
  go_wp2
  clear e1 e2
  go_loopw [14, 15] (fun vi vj wr => ∃ (i j : Nat), vi = .int .i64 i ∧ vj = .int .i64 j ∧ a ≤ i ∧ i ≤ j ∧ j ≤ m ∧ Bef2 f d m a i ∧ Nbf2 f d m j m ∧ Hid (RowW wr blk n d) ∧ Hid (Turn blk w0 wr)) (fun vi vj _ => (intOf vj).toNat - (intOf vi).toNat)
  case atStart => exact ⟨a, m, rfl, rfl, by omega, by omega, by omega, fun k h1 h2 => by omega, fun k h1 h2 => by omega, HR, HT⟩
  case round =>
    clear HR HT
    obtain ⟨i, j, rfl, rfl, hi, hij, hj, HL, HG, HR, HT⟩ := hrel
    by_cases hlt : i < j
    · obtain ⟨h, hh⟩ : ∃ h, h = (i + j) / 2 := ⟨_, rfl⟩
      have h1 : i ≤ h := by omega
      have h2 : h < j := by omega
      have h3 : h < n := by omega
      have h4 : (h : Int) < (n : Int) := by omega
      have h5 : m < n := by omega
      have h6 : (m : Int) < (n : Int) := by omega
      have h7 : (0 : Int) ≤ (h : Int) := by omega
      have h8 : (0 : Int) ≤ (m : Int) := by omega
      have hq : ((i : Int) + (j : Int)) / 2 = (h : Int) := by omega
      have c1 := HR.out.all h (by omega)
      have c2 := HR.out.all m (by omega)
      have hc := HC.out.all HT.out (d m) (d h) (HD.out _ (by omega)) (HD.out _ (by omega))
      have hv := Lib.hid (HC.out.lt (d m) (d h))
      obtain ⟨x, hx⟩ : ∃ x, x = d h := ⟨_, rfl⟩
      obtain ⟨y, hy⟩ : ∃ y, y = d m := ⟨_, rfl⟩
      rw [← hx] at c1
      rw [← hy] at c2
      rw [← hx, ← hy] at hc hv
      have HX1 := Lib.hid hx
      have HY1 := Lib.hid hy
      have HH := Lib.hid hh
      clear hx hy hh
      generalize cf y x = c at *
      by_cases hl : c < 0
      · have hcd : decide (c < 0) = true := decide_eq_true hl
        go_wp2_with fail
        refine wp_region_grew (by kernel_rfl) (by kernel_rfl) ?_
        repeat (go_big_quiet_step (exact calls_grew (hc _)))
        refine wpQuiet_nil ?_
        intro w2 hw'
        have hg := grew_of hw'
        clear hw'
        have HR2 : Hid (RowW w2 blk n d) := HR.out.keep hg
        have HT2 : Hid (Turn blk w0 w2) := HT.out.grew hg
        clear c1 c2 hc HR HT hg hcd hq
        have HG2 : Nbf2 f d m h m := by
          intro k k1 k2
          have hf : f (d h) < f (d m) := by rw [← HX1.out, ← HY1.out]; exact hv.out.1 hl
          by_cases c : k = h
          · rw [c]; exact hf
          · have := HS.out h k (by omega) (by omega) k2
            unfold Ah at this; omega
        clear hv hl
        go_wp2
        go_roundw
        case rel => exact ⟨i, h, rfl, rfl, by omega, by omega, by omega, HL, HG2, HR2, HT2⟩
        case measure => simp only [intOf]; omega
      · have hcd : decide (c < 0) = false := decide_eq_false hl
        go_wp2_with fail
        refine wp_region_grew (by kernel_rfl) (by kernel_rfl) ?_
        repeat (go_big_quiet_step (exact calls_grew (hc _)))
        refine wpQuiet_nil ?_
        intro w2 hw'
        have hg := grew_of hw'
        clear hw'
        have HR2 : Hid (RowW w2 blk n d) := HR.out.keep hg
        have HT2 : Hid (Turn blk w0 w2) := HT.out.grew hg
        clear c1 c2 hc HR HT hg hcd hq
        have HL2 : Bef2 f d m a (h + 1) := by
          intro k k1 k2
          have hf : ¬ f (d h) < f (d m) := by rw [← HX1.out, ← HY1.out]; intro h9; have := hv.out.2 h9; omega
          by_cases c : k = h
          · rw [c]; exact hf
          · have := HS.out k h k1 (by omega) (by omega)
            unfold Ah at this; omega
        clear hv hl
        go_wp2
        go_roundw
        case rel => exact ⟨h + 1, j, by go_num, rfl, by omega, by omega, by omega, HL2, HG, HR2, HT2⟩
        case measure => simp only [intOf]; omega
    · obtain rfl : i = j := by omega
      have HF : Hid (Sd f a (m + 1) (shD d m i)) := shD_sorted HS.out HX.out (by omega) (by omega) HL HG
      have HM : Hid (Moves a (m + 1) d (shD d m i)) := shD_moves d a m i (by omega) (by omega)
      have HR2 : Hid (RowW wr blk n (shD d m m)) := by rw [shD_zero]; exact HR
      clear HL HG HR
      go_wp2
      go_loopw [17] (fun vk wr => ∃ (k : Nat), vk = .int .i64 k ∧ i ≤ k ∧ k ≤ m ∧ Hid (RowW wr blk n (shD d m k)) ∧ Hid (Turn blk w0 wr)) (fun vk _ => (intOf vk).toNat)
      case atStart => exact ⟨m, rfl, by omega, by omega, HR2, HT⟩
      case round =>
        clear HR2 HT
        obtain ⟨k, rfl, hk1, hk2, HR, HT⟩ := hrel
        by_cases hlt : i < k
        · obtain ⟨k, rfl⟩ : ∃ q, k = q + 1 := ⟨k - 1, by omega⟩
          have zj : ((k + 1 : Nat) : Int) = (k : Int) + 1 := by omega
          have HN := Lib.hid (shD_succ d m k hk2)
          generalize shD d m (k + 1) = e at *
          have k1 : (i : Int) < (k : Int) + 1 := by omega
          have k2 : (k : Int) + 1 < (n : Int) := by omega
          have k3 : (k : Int) < (n : Int) := by omega
          have k4 : (0 : Int) ≤ (k : Int) := by omega
          have k5 : (0 : Int) ≤ (k : Int) + 1 := by omega
          have k6 : IntKind.i64.wrap ((k : Int) + 1) = (k : Int) + 1 := by rw [IntKind.wrap_i64]; omega
          have k7 : IntKind.i64.wrap ((k : Int) + 1 - 1) = (k : Int) := by rw [IntKind.wrap_i64]; omega
          have c1 := (HR.out.2 k (by omega)).1
          have c2 := (HR.out.2 (k + 1) (by omega)).1
          have m1 := (HR.out.2 k (by omega)).2
          have m2 := (HR.out.2 (k + 1) (by omega)).2
          have c3 := HR.out.two (k + 1) k (by omega) (by omega) (.int .i64 (e k))
          have HS3 : Hid (RowW ((wr.setCell ⟨blk, k + 1, none⟩ (.int .i64 (e k))).setCell ⟨blk, k, none⟩ (.int .i64 (e (k + 1)))).drew blk n (sw e (k + 1) k)) := HR.out.swap (k + 1) k (by omega) (by omega) (by omega)
          have HT3 : Hid (Turn blk w0 ((wr.setCell ⟨blk, k + 1, none⟩ (.int .i64 (e k))).setCell ⟨blk, k, none⟩ (.int .i64 (e (k + 1)))).drew) := ((HT.out.setCell (k + 1) (.int .i64 (e k))).setCell k (.int .i64 (e (k + 1)))).drew
          obtain ⟨x, hx⟩ : ∃ x, x = e (k + 1) := ⟨_, rfl⟩
          obtain ⟨y, hy⟩ : ∃ y, y = e k := ⟨_, rfl⟩
          rw [← hy] at c1 c3
          rw [← hx] at c2
          rw [← hx, ← hy] at HS3 HT3
          clear hx hy HR HT
          rw [zj]
          go_wp2_with fail
          go_big_region
          clear c1 c2 c3 m1 m2
          generalize ((wr.setCell ⟨blk, k + 1, none⟩ (.int .i64 y)).setCell ⟨blk, k, none⟩ (.int .i64 x)).drew = w3 at HS3 HT3 ⊢
          go_wp2
          go_roundw
          case rel => exact ⟨k, rfl, by omega, by omega, by rw [← HN.out]; exact HS3, HT3⟩
          case measure => simp only [intOf]; omega
        · obtain rfl : k = i := by omega
          go_wp2
          go_end0
          exact ⟨rfl, _, HM.out, HF.out, HR.out, HT.out⟩
end Go.Proofs.YtahioajpmlochaaGreat.NumK
namespace Go.Proofs.YtahioajpmlochaaGreat.NumK
open Go.RowKit

set_option maxRecDepth 100000 in
set_option maxHeartbeats 1000000 in
theorem swapRange_any (blk n cap a b m : Nat) (fv : Value) (d : Nat → Nat) (w : World) (hR : RowW w blk n d) (h1 : a + m ≤ b) (h2 : b + m ≤ n) (hn : n ≤ 1000000) :
    Calls Tryz.prog 110 #[.slice (some ⟨blk, 0, none⟩) n cap, .int .i64 a, .int .i64 b, .int .i64 m, fv] w fun e w' => e = .returned (.tuple #[]) ∧ RowW w' blk n (swr d a b m) ∧ Turn blk w w' := by
  have HR : Hid (RowW w blk n (swr d a b 0)) := by rw [swr_zero]; exact hR
  clear hR
  go_enter Tryz.func110, Tryz.ntmps110
  go_wp2
  go_loopw [10] (fun i wr => ∃ k : Nat, k ≤ m ∧ i = .int .i64 k ∧ Hid (RowW wr blk n (swr d a b k)) ∧ Hid (Turn blk w wr)) (fun i _ => m - (intOf i).toNat)
  case atStart => exact ⟨0, Nat.zero_le _, rfl, HR, Turn.refl _ _⟩
  case round =>
    clear HR
    obtain ⟨k, hk, rfl, HR, HT⟩ := hrel
    by_cases hlt : k < m
    · have HN : Hid (swr d a b (k + 1) = sw (swr d a b k) (a + k) (b + k)) := (swr_succ d a b k (by omega)).symm
      generalize swr d a b k = e at *
      have HS : Hid (RowW ((wr.setCell ⟨blk, a + k, none⟩ (.int .i64 (e (b + k)))).setCell ⟨blk, b + k, none⟩ (.int .i64 (e (a + k)))).drew blk n (sw e (a + k) (b + k))) := HR.out.swap (a + k) (b + k) (by omega) (by omega) (by omega)
      have HT2 : Hid (Turn blk w ((wr.setCell ⟨blk, a + k, none⟩ (.int .i64 (e (b + k)))).setCell ⟨blk, b + k, none⟩ (.int .i64 (e (a + k)))).drew) := ((HT.out.setCell _ _).setCell _ _).drew
      have c1 := (HR.out.2 (a + k) (by omega)).1
      have c2 := (HR.out.2 (b + k) (by omega)).1
      have f1 := (HR.out.2 (a + k) (by omega)).2
      have f2 := (HR.out.2 (b + k) (by omega)).2
      have c3 := HR.out.two (a + k) (b + k) (by omega) (by omega) (.int .i64 (e (b + k)))
      obtain ⟨x, hx⟩ : ∃ x, x = e (a + k) := ⟨_, rfl⟩
      obtain ⟨y, hy⟩ : ∃ y, y = e (b + k) := ⟨_, rfl⟩
      obtain ⟨p, hp⟩ : ∃ p, p = a + k := ⟨_, rfl⟩
      obtain ⟨q, hq⟩ : ∃ q, q = b + k := ⟨_, rfl⟩
      have ep : ((a : Int) + (k : Int)).toNat = p := by omega
      have eq : ((b : Int) + (k : Int)).toNat = q := by omega
      have wp : IntKind.i64.wrap ((a : Int) + (k : Int)) = (a : Int) + (k : Int) := by rw [IntKind.wrap_i64]; omega
      have wq : IntKind.i64.wrap ((b : Int) + (k : Int)) = (b : Int) + (k : Int) := by rw [IntKind.wrap_i64]; omega
      have p0 : 0 ≤ (a : Int) + (k : Int) := by omega
      have q0 : 0 ≤ (b : Int) + (k : Int) := by omega
      have p1 : (a : Int) + (k : Int) < (n : Int) := by omega
      have q1 : (b : Int) + (k : Int) < (n : Int) := by omega
      rw [← hx, ← hy, ← hp, ← hq] at HS HT2
      rw [← hx, ← hp] at c1
      rw [← hy, ← hq] at c2
      rw [← hp] at f1
      rw [← hq] at f2
      rw [← hy, ← hq, ← hp] at c3
      rw [← hp, ← hq] at HN
      clear hx hy hp hq HR HT
      go_wp2
      go_big_region
      clear c1 c2 c3 f1 f2 ep eq wp wq
      generalize ((wr.setCell ⟨blk, p, none⟩ (.int .i64 y)).setCell ⟨blk, q, none⟩ (.int .i64 x)).drew = w2 at HS HT2 ⊢
      go_wp2
      go_roundw
      case rel => exact ⟨k + 1, by omega, by go_num, by rw [HN.out]; exact HS, HT2⟩
      case measure => simp [intOf]; omega
    · obtain rfl : k = m := by omega
      go_wp2
      go_end0
      exact ⟨rfl, HR.out, HT.out⟩
end Go.Proofs.YtahioajpmlochaaGreat.NumK
namespace Go.Proofs.YtahioajpmlochaaGreat.NumK
open Go.RowKit

set_option maxRecDepth 100000 in
set_option maxHeartbeats 1000000 in
theorem rotate_any (blk n cap a m b : Nat) (fv : Value) (d : Nat → Nat) (w : World) (hR : RowW w blk n d) (h1 : a < m) (h2 : m < b) (h3 : b ≤ n) (hn : n ≤ 1000000) :
    Calls Tryz.prog 108 #[.slice (some ⟨blk, 0, none⟩) n cap, .int .i64 a, .int .i64 m, .int .i64 b, fv] w fun e w' => e = .returned (.tuple #[]) ∧ RowW w' blk n (rot d a m b) ∧ Turn blk w w' := by
  have HR : Hid (RowW w blk n d) := hR
  clear hR
  go_enter Tryz.func108, Tryz.ntmps108
  go_wp2
  go_loopw [10, 11] (fun vi vj wr => ∃ (i j : Nat) (e : Nat → Nat), vi = .int .i64 i ∧ vj = .int .i64 j ∧ 0 < i ∧ 0 < j ∧ a + i ≤ m ∧ m + j ≤ b ∧ Hid (RowW wr blk n e) ∧ Hid (rot e (m - i) m (m + j) = rot d a m b) ∧ Hid (Turn blk w wr)) (fun vi vj _ => (intOf vi).toNat + (intOf vj).toNat)
  case atStart =>
    refine ⟨m - a, b - m, d, by congr 1; omega, by congr 1; omega, by omega, by omega, by omega, by omega, HR, ?_, Turn.refl _ _⟩
    show _ = _
    rw [show m - (m - a) = a from by omega, show m + (b - m) = b from by omega]
  case round =>
    clear HR
    obtain ⟨i, j, e, rfl, rfl, hi, hj, hai, hjb, HR, HE, HT⟩ := hrel
    have ei : ((m - i : Nat) : Int) = (m : Int) - (i : Int) := by omega
    by_cases c1 : i = j
    · subst c1
      have HF : Hid (swr e (m - i) m i = rot d a m b) := (rot_eq e m i (by omega)).trans HE.out
      have C := swapRange_any blk n cap (m - i) m i fv e wr HR.out (by omega) (by omega) hn
      rw [ei] at C
      have C := Lib.hid C
      clear ei
      go_wp2_with (go_at_call 110; ((with_reducible refine C.out.mono ?_); rintro r w2 ⟨rfl, hR2, hT2⟩))
      go_end0
      exact ⟨rfl, by rw [← HF.out]; exact hR2, HT.out.trans hT2⟩
    · by_cases c2 : j < i
      · have HF : Hid (rot (swr e (m - i) m j) (m - (i - j)) m (m + j) = rot d a m b) := (rot_gt e m i j (by omega) c2).trans HE.out
        have C := swapRange_any blk n cap (m - i) m j fv e wr HR.out (by omega) (by omega) hn
        rw [ei] at C
        have C := Lib.hid C
        clear ei
        have d1 : ((i : Int) != (j : Int)) = true := by simp; omega
        clear c1
        go_wp2_with (go_at_call 110; ((with_reducible refine C.out.mono ?_); rintro r w2 ⟨rfl, hR2, hT2⟩; have HR2 := Lib.hid hR2; have HT2 := Lib.hid hT2; clear hR2 hT2))
        go_roundw
        case rel => exact ⟨i - j, j, _, by congr 1; omega, rfl, by omega, by omega, by omega, by omega, HR2, HF, HT.out.trans HT2.out⟩
        case measure => simp [intOf]; omega
      · have HF : Hid (rot (swr e (m - i) (m + j - i) i) (m - i) m (m + (j - i)) = rot d a m b) := (rot_lt e m i j (by omega) (by omega)).trans HE.out
        have C := swapRange_any blk n cap (m - i) (m + j - i) i fv e wr HR.out (by omega) (by omega) hn
        have ej : ((m + j - i : Nat) : Int) = (m : Int) + (j : Int) - (i : Int) := by omega
        rw [ei, ej] at C
        have C := Lib.hid C
        clear ei ej
        have d1 : ((i : Int) != (j : Int)) = true := by simp; omega
        have c3 : i < j := by omega
        clear c1
        go_wp2_with (go_at_call 110; ((with_reducible refine C.out.mono ?_); rintro r w2 ⟨rfl, hR2, hT2⟩; have HR2 := Lib.hid hR2; have HT2 := Lib.hid hT2; clear hR2 hT2))
        go_roundw
        case rel => exact ⟨i, j - i, _, rfl, by congr 1; omega, by omega, by omega, by omega, by omega, HR2, HF, HT.out.trans HT2.out⟩
        case measure => simp [intOf]; omega
end Go.Proofs.YtahioajpmlochaaGreat.NumK
