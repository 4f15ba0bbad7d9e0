/- The sort's symmetric merge: one element ahead of many. -/
import Derived.Test.YtkkemmfghjgmeaaRow
namespace Go.Proofs.Ytkkemmfghjgmeaa.NumK
open Go.RowKit

/-- What stands from l up to i is ahead of what stands at a; what stands from j on is not. -/
def Bef (f : Nat → Int) (d : Nat → Nat) (a l i : Nat) : Prop := ∀ k, l ≤ k → k < i → f (d a) < f (d k)
def Nbf (f : Nat → Int) (d : Nat → Nat) (a j b : Nat) : Prop := ∀ k, j ≤ k → k < b → ¬ f (d a) < f (d k)

set_option maxRecDepth 100000 in
set_option maxHeartbeats 4000000 in
theorem symA_any (g : Nat) (cb : Array Value) (cf : Nat → Nat → Int) (f : Nat → Int) (blk n cap a b : Nat) (d : Nat → Nat) (w0 w : World) (eg : ∀ args w, (callFunc g args).run Try.prog w = .ok (.enter g args) w)
    (hC : CmpOK g cb cf f blk n w0) (hT : Turn blk w0 w) (hR : RowW w blk n d) (hd : ∀ k, k < n → d k < n) (hs2 : Sd f (a + 1) b d) (hx : Xs a (a + 1) b d) (hmb : a + 1 < b) (hb : b ≤ n) (hn : n ≤ 1000000) :
    Calls Try.prog 61 #[.slice (some ⟨blk, 0, none⟩) n cap, .int .i64 a, .int .i64 ((a : Int) + 1), .int .i64 b, .func (.func g) #[] cb] w (SortPost f blk n a b d w0) := by
  have HR := Lib.hid hR
  have HC := Lib.hid hC
  have HT := Lib.hid hT
  have HD := Lib.hid hd
  have HS := Lib.hid hs2
  have HX := Lib.hid hx
  clear hR hC hT hd hs2 hx
  have e1 : (((a : Int) + 1 - (a : Int)) == 1) = true := by simp; omega
  go_enter Try.func61, Try.ntmps61
  go_wp2
  clear e1
  go_loopw [10, 11] (fun vi vj wr => ∃ (i j : Nat), vi = .int .i64 i ∧ vj = .int .i64 j ∧ a + 1 ≤ i ∧ i ≤ j ∧ j ≤ b ∧ Bef f d a (a + 1) i ∧ Nbf f d a j b ∧ Hid (RowW wr blk n d) ∧ Hid (Turn blk w0 wr)) (fun vi vj _ => (intOf vj).toNat - (intOf vi).toNat)
  case atStart => exact ⟨a + 1, b, by go_num, rfl, by omega, by omega, by omega, fun k h1 h2 => by omega, fun k h1 h2 => by omega, HR, HT⟩
  case round =>
    clear HR HT
    obtain ⟨i, j, rfl, rfl, hi, hij, hj, HL, HG, HR, HT⟩ := hrel
    by_cases hlt : i < j
    · obtain ⟨h, hh⟩ : ∃ h, h = (i + j) / 2 := ⟨_, rfl⟩
      have h1 : i ≤ h := by omega
      have h2 : h < j := by omega
      have h3 : h < n := by omega
      have h4 : (h : Int) < (n : Int) := by omega
      have h5 : a < n := by omega
      have h6 : (a : Int) < (n : Int) := by omega
      have h7 : (0 : Int) ≤ (h : Int) := by omega
      have h8 : (0 : Int) ≤ (a : Int) := by omega
      have hq : ((i : Int) + (j : Int)) / 2 = (h : Int) := by omega
      have c1 := HR.out.all h (by omega)
      have c2 := HR.out.all a (by omega)
      have hc := HC.out.all HT.out (d h) (d a) (HD.out _ (by omega)) (HD.out _ (by omega))
      have hv := Lib.hid (HC.out.lt (d h) (d a))
      obtain ⟨x, hx⟩ : ∃ x, x = d h := ⟨_, rfl⟩
      obtain ⟨y, hy⟩ : ∃ y, y = d a := ⟨_, rfl⟩
      rw [← hx] at c1
      rw [← hy] at c2
      rw [← hx, ← hy] at hc hv
      have HX1 := Lib.hid hx
      have HY1 := Lib.hid hy
      have HH := Lib.hid hh
      clear hx hy hh
      generalize cf x y = c at *
      by_cases hl : c < 0
      · have hcd : decide (c < 0) = true := decide_eq_true hl
        go_wp2_with fail
        refine wp_region_grew (by kernel_rfl) (by kernel_rfl) ?_
        repeat (go_big_quiet_step (exact calls_grew (hc _)))
        refine wpQuiet_nil ?_
        intro w2 hw'
        have hg := grew_of hw'
        clear hw'
        have HR2 : Hid (RowW w2 blk n d) := HR.out.keep hg
        have HT2 : Hid (Turn blk w0 w2) := HT.out.grew hg
        clear c1 c2 hc HR HT hg hcd hq
        have HL2 : Bef f d a (a + 1) (h + 1) := by
          intro k k1 k2
          have hf : f (d a) < f (d h) := by rw [← HX1.out, ← HY1.out]; exact hv.out.1 hl
          by_cases c : k = h
          · rw [c]; exact hf
          · have := HS.out k h k1 (by omega) (by omega)
            unfold Ah at this; omega
        clear hv hl
        go_wp2
        go_roundw
        case rel => exact ⟨h + 1, j, by go_num, rfl, by omega, by omega, by omega, HL2, HG, HR2, HT2⟩
        case measure => simp only [intOf]; omega
      · have hcd : decide (c < 0) = false := decide_eq_false hl
        go_wp2_with fail
        refine wp_region_grew (by kernel_rfl) (by kernel_rfl) ?_
        repeat (go_big_quiet_step (exact calls_grew (hc _)))
        refine wpQuiet_nil ?_
        intro w2 hw'
        have hg := grew_of hw'
        clear hw'
        have HR2 : Hid (RowW w2 blk n d) := HR.out.keep hg
        have HT2 : Hid (Turn blk w0 w2) := HT.out.grew hg
        clear c1 c2 hc HR HT hg hcd hq
        have HG2 : Nbf f d a h b := by
          intro k k1 k2
          have hf : ¬ f (d a) < f (d h) := by rw [← HX1.out, ← HY1.out]; intro h9; have := hv.out.2 h9; omega
          by_cases c : k = h
          · rw [c]; exact hf
          · have := HS.out h k (by omega) (by omega) k2
            unfold Ah at this; omega
        clear hv hl
        go_wp2
        go_roundw
        case rel => exact ⟨i, h, rfl, rfl, by omega, by omega, by omega, HL, HG2, HR2, HT2⟩
        case measure => simp only [intOf]; omega
    · obtain rfl : i = j := by omega
      have HF : Hid (Sd f a b (shU d a (i - 1))) := shU_sorted HS.out HX.out (by omega) (by omega) HL HG
      have HM : Hid (Moves a b d (shU d a (i - 1))) := shU_moves d a (i - 1) b (by omega) (by omega)
      have HR2 : Hid (RowW wr blk n (shU d a a)) := by rw [shU_zero]; exact HR
      clear HL HG HR
      go_wp2
      go_loopw [13] (fun vk wr => ∃ (k : Nat), vk = .int .i64 k ∧ a ≤ k ∧ k ≤ i - 1 ∧ Hid (RowW wr blk n (shU d a k)) ∧ Hid (Turn blk w0 wr)) (fun vk _ => i - (intOf vk).toNat)
      case atStart => exact ⟨a, rfl, by omega, by omega, HR2, HT⟩
      case round =>
        clear HR2 HT
        obtain ⟨k, rfl, hk1, hk2, HR, HT⟩ := hrel
        by_cases hlt : k < i - 1
        · have HN := Lib.hid (shU_succ d a k hk1)
          generalize shU d a k = e at *
          have k1 : (k : Int) < (i : Int) - 1 := by omega
          have k2 : (k : Int) + 1 < (n : Int) := by omega
          have k3 : (k : Int) < (n : Int) := by omega
          have k4 : (0 : Int) ≤ (k : Int) := by omega
          have k5 : (0 : Int) ≤ (k : Int) + 1 := by omega
          have k6 : IntKind.i64.wrap ((k : Int) + 1) = (k : Int) + 1 := by rw [IntKind.wrap_i64]; omega
          have c1 := (HR.out.2 k (by omega)).1
          have c2 := (HR.out.2 (k + 1) (by omega)).1
          have m1 := (HR.out.2 k (by omega)).2
          have m2 := (HR.out.2 (k + 1) (by omega)).2
          have c3 := HR.out.two k (k + 1) (by omega) (by omega) (.int .i64 (e (k + 1)))
          have HS3 : Hid (RowW ((wr.setCell ⟨blk, k, none⟩ (.int .i64 (e (k + 1)))).setCell ⟨blk, k + 1, none⟩ (.int .i64 (e k))).drew blk n (sw e k (k + 1))) := HR.out.swap k (k + 1) (by omega) (by omega) (by omega)
          have HT3 : Hid (Turn blk w0 ((wr.setCell ⟨blk, k, none⟩ (.int .i64 (e (k + 1)))).setCell ⟨blk, k + 1, none⟩ (.int .i64 (e k))).drew) := ((HT.out.setCell k (.int .i64 (e (k + 1)))).setCell (k + 1) (.int .i64 (e k))).drew
          obtain ⟨x, hx⟩ : ∃ x, x = e k := ⟨_, rfl⟩
          obtain ⟨y, hy⟩ : ∃ y, y = e (k + 1) := ⟨_, rfl⟩
          rw [← hx] at c1
          rw [← hy] at c2 c3
          rw [← hx, ← hy] at HS3 HT3
          clear hx hy HR HT
          go_wp2_with fail
          go_big_region
          clear c1 c2 c3 m1 m2
          generalize ((wr.setCell ⟨blk, k, none⟩ (.int .i64 y)).setCell ⟨blk, k + 1, none⟩ (.int .i64 x)).drew = w3 at HS3 HT3 ⊢
          go_wp2
          go_roundw
          case rel => exact ⟨k + 1, by go_num, by omega, by omega, by rw [← HN.out]; exact HS3, HT3⟩
          case measure => simp only [intOf]; omega
        · obtain rfl : k = i - 1 := by omega
          go_wp2
          go_end0
          exact ⟨rfl, _, HM.out, HF.out, HR.out, HT.out⟩
end Go.Proofs.Ytkkemmfghjgmeaa.NumK
