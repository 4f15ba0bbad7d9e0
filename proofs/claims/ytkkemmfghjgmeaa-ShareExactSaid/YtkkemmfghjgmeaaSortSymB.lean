/- The sort's symmetric merge: one element behind many. -/
import Derived.Test.YtkkemmfghjgmeaaSortSymA
namespace Go.Proofs.Ytkkemmfghjgmeaa.NumK
open Go.RowKit

/-- What stands from l up to i is not behind what stands at m; what stands from j on is. -/
def Bef2 (f : Nat → Int) (d : Nat → Nat) (m l i : Nat) : Prop := ∀ k, l ≤ k → k < i → ¬ f (d k) < f (d m)
def Nbf2 (f : Nat → Int) (d : Nat → Nat) (m j b : Nat) : Prop := ∀ k, j ≤ k → k < b → f (d k) < f (d m)

set_option maxRecDepth 100000 in
set_option maxHeartbeats 4000000 in
theorem symB_any (g : Nat) (cb : Array Value) (cf : Nat → Nat → Int) (f : Nat → Int) (blk n cap a m : Nat) (d : Nat → Nat) (w0 w : World) (eg : ∀ args w, (callFunc g args).run Try.prog w = .ok (.enter g args) w)
    (hC : CmpOK g cb cf f blk n w0) (hT : Turn blk w0 w) (hR : RowW w blk n d) (hd : ∀ k, k < n → d k < n) (hs2 : Sd f a m d) (hx : Xs a m (m + 1) d) (hmb : a + 1 < m) (hb : m + 1 ≤ n) (hn : n ≤ 1000000) :
    Calls Try.prog 61 #[.slice (some ⟨blk, 0, none⟩) n cap, .int .i64 a, .int .i64 m, .int .i64 ((m : Int) + 1), .func (.func g) #[] cb] w (SortPost f blk n a (m + 1) d w0) := by
  have HR := Lib.hid hR
  have HC := Lib.hid hC
  have HT := Lib.hid hT
  have HD := Lib.hid hd
  have HS := Lib.hid hs2
  have HX := Lib.hid hx
  clear hR hC hT hd hs2 hx
  have e1 : (((m : Int) - (a : Int)) == 1) = false := by simp; omega
  have e2 : (((m : Int) + 1 - (m : Int)) == 1) = true := by simp; omega
  go_enter Try.func61, Try.ntmps61
  go_wp2
  clear e1 e2
  go_loopw [14, 15] (fun vi vj wr => ∃ (i j : Nat), vi = .int .i64 i ∧ vj = .int .i64 j ∧ a ≤ i ∧ i ≤ j ∧ j ≤ m ∧ Bef2 f d m a i ∧ Nbf2 f d m j m ∧ Hid (RowW wr blk n d) ∧ Hid (Turn blk w0 wr)) (fun vi vj _ => (intOf vj).toNat - (intOf vi).toNat)
  case atStart => exact ⟨a, m, rfl, rfl, by omega, by omega, by omega, fun k h1 h2 => by omega, fun k h1 h2 => by omega, HR, HT⟩
  case round =>
    clear HR HT
    obtain ⟨i, j, rfl, rfl, hi, hij, hj, HL, HG, HR, HT⟩ := hrel
    by_cases hlt : i < j
    · obtain ⟨h, hh⟩ : ∃ h, h = (i + j) / 2 := ⟨_, rfl⟩
      have h1 : i ≤ h := by omega
      have h2 : h < j := by omega
      have h3 : h < n := by omega
      have h4 : (h : Int) < (n : Int) := by omega
      have h5 : m < n := by omega
      have h6 : (m : Int) < (n : Int) := by omega
      have h7 : (0 : Int) ≤ (h : Int) := by omega
      have h8 : (0 : Int) ≤ (m : Int) := by omega
      have hq : ((i : Int) + (j : Int)) / 2 = (h : Int) := by omega
      have c1 := HR.out.all h (by omega)
      have c2 := HR.out.all m (by omega)
      have hc := HC.out.all HT.out (d m) (d h) (HD.out _ (by omega)) (HD.out _ (by omega))
      have hv := Lib.hid (HC.out.lt (d m) (d h))
      obtain ⟨x, hx⟩ : ∃ x, x = d h := ⟨_, rfl⟩
      obtain ⟨y, hy⟩ : ∃ y, y = d m := ⟨_, rfl⟩
      rw [← hx] at c1
      rw [← hy] at c2
      rw [← hx, ← hy] at hc hv
      have HX1 := Lib.hid hx
      have HY1 := Lib.hid hy
      have HH := Lib.hid hh
      clear hx hy hh
      generalize cf y x = c at *
      by_cases hl : c < 0
      · have hcd : decide (c < 0) = true := decide_eq_true hl
        go_wp2_with fail
        refine wp_region_grew (by kernel_rfl) (by kernel_rfl) ?_
        repeat (go_big_quiet_step (exact calls_grew (hc _)))
        refine wpQuiet_nil ?_
        intro w2 hw'
        have hg := grew_of hw'
        clear hw'
        have HR2 : Hid (RowW w2 blk n d) := HR.out.keep hg
        have HT2 : Hid (Turn blk w0 w2) := HT.out.grew hg
        clear c1 c2 hc HR HT hg hcd hq
        have HG2 : Nbf2 f d m h m := by
          intro k k1 k2
          have hf : f (d h) < f (d m) := by rw [← HX1.out, ← HY1.out]; exact hv.out.1 hl
          by_cases c : k = h
          · rw [c]; exact hf
          · have := HS.out h k (by omega) (by omega) k2
            unfold Ah at this; omega
        clear hv hl
        go_wp2
        go_roundw
        case rel => exact ⟨i, h, rfl, rfl, by omega, by omega, by omega, HL, HG2, HR2, HT2⟩
        case measure => simp only [intOf]; omega
      · have hcd : decide (c < 0) = false := decide_eq_false hl
        go_wp2_with fail
        refine wp_region_grew (by kernel_rfl) (by kernel_rfl) ?_
        repeat (go_big_quiet_step (exact calls_grew (hc _)))
        refine wpQuiet_nil ?_
        intro w2 hw'
        have hg := grew_of hw'
        clear hw'
        have HR2 : Hid (RowW w2 blk n d) := HR.out.keep hg
        have HT2 : Hid (Turn blk w0 w2) := HT.out.grew hg
        clear c1 c2 hc HR HT hg hcd hq
        have HL2 : Bef2 f d m a (h + 1) := by
          intro k k1 k2
          have hf : ¬ f (d h) < f (d m) := by rw [← HX1.out, ← HY1.out]; intro h9; have := hv.out.2 h9; omega
          by_cases c : k = h
          · rw [c]; exact hf
          · have := HS.out k h k1 (by omega) (by omega)
            unfold Ah at this; omega
        clear hv hl
        go_wp2
        go_roundw
        case rel => exact ⟨h + 1, j, by go_num, rfl, by omega, by omega, by omega, HL2, HG, HR2, HT2⟩
        case measure => simp only [intOf]; omega
    · obtain rfl : i = j := by omega
      have HF : Hid (Sd f a (m + 1) (shD d m i)) := shD_sorted HS.out HX.out (by omega) (by omega) HL HG
      have HM : Hid (Moves a (m + 1) d (shD d m i)) := shD_moves d a m i (by omega) (by omega)
      have HR2 : Hid (RowW wr blk n (shD d m m)) := by rw [shD_zero]; exact HR
      clear HL HG HR
      go_wp2
      go_loopw [17] (fun vk wr => ∃ (k : Nat), vk = .int .i64 k ∧ i ≤ k ∧ k ≤ m ∧ Hid (RowW wr blk n (shD d m k)) ∧ Hid (Turn blk w0 wr)) (fun vk _ => (intOf vk).toNat)
      case atStart => exact ⟨m, rfl, by omega, by omega, HR2, HT⟩
      case round =>
        clear HR2 HT
        obtain ⟨k, rfl, hk1, hk2, HR, HT⟩ := hrel
        by_cases hlt : i < k
        · obtain ⟨k, rfl⟩ : ∃ q, k = q + 1 := ⟨k - 1, by omega⟩
          have zj : ((k + 1 : Nat) : Int) = (k : Int) + 1 := by omega
          have HN := Lib.hid (shD_succ d m k hk2)
          generalize shD d m (k + 1) = e at *
          have k1 : (i : Int) < (k : Int) + 1 := by omega
          have k2 : (k : Int) + 1 < (n : Int) := by omega
          have k3 : (k : Int) < (n : Int) := by omega
          have k4 : (0 : Int) ≤ (k : Int) := by omega
          have k5 : (0 : Int) ≤ (k : Int) + 1 := by omega
          have k6 : IntKind.i64.wrap ((k : Int) + 1) = (k : Int) + 1 := by rw [IntKind.wrap_i64]; omega
          have k7 : IntKind.i64.wrap ((k : Int) + 1 - 1) = (k : Int) := by rw [IntKind.wrap_i64]; omega
          have c1 := (HR.out.2 k (by omega)).1
          have c2 := (HR.out.2 (k + 1) (by omega)).1
          have m1 := (HR.out.2 k (by omega)).2
          have m2 := (HR.out.2 (k + 1) (by omega)).2
          have c3 := HR.out.two (k + 1) k (by omega) (by omega) (.int .i64 (e k))
          have HS3 : Hid (RowW ((wr.setCell ⟨blk, k + 1, none⟩ (.int .i64 (e k))).setCell ⟨blk, k, none⟩ (.int .i64 (e (k + 1)))).drew blk n (sw e (k + 1) k)) := HR.out.swap (k + 1) k (by omega) (by omega) (by omega)
          have HT3 : Hid (Turn blk w0 ((wr.setCell ⟨blk, k + 1, none⟩ (.int .i64 (e k))).setCell ⟨blk, k, none⟩ (.int .i64 (e (k + 1)))).drew) := ((HT.out.setCell (k + 1) (.int .i64 (e k))).setCell k (.int .i64 (e (k + 1)))).drew
          obtain ⟨x, hx⟩ : ∃ x, x = e (k + 1) := ⟨_, rfl⟩
          obtain ⟨y, hy⟩ : ∃ y, y = e k := ⟨_, rfl⟩
          rw [← hy] at c1 c3
          rw [← hx] at c2
          rw [← hx, ← hy] at HS3 HT3
          clear hx hy HR HT
          rw [zj]
          go_wp2_with fail
          go_big_region
          clear c1 c2 c3 m1 m2
          generalize ((wr.setCell ⟨blk, k + 1, none⟩ (.int .i64 y)).setCell ⟨blk, k, none⟩ (.int .i64 x)).drew = w3 at HS3 HT3 ⊢
          go_wp2
          go_roundw
          case rel => exact ⟨k, rfl, by omega, by omega, by rw [← HN.out]; exact HS3, HT3⟩
          case measure => simp only [intOf]; omega
        · obtain rfl : k = i := by omega
          go_wp2
          go_end0
          exact ⟨rfl, _, HM.out, HF.out, HR.out, HT.out⟩
end Go.Proofs.Ytkkemmfghjgmeaa.NumK
