/- The sort's symmetric merge: one element behind many. -/
import Derived.Test.YtahioajpmlochaaGreatRH2
import Derived.Test.YtahioajpmlochaaGreatRH4
namespace Go.Proofs.YtahioajpmlochaaGreat.NumK
open Go.RowKit

set_option maxRecDepth 100000 in
set_option maxHeartbeats 4000000 in
theorem symBB_any {L : Nat → B5} (g : Nat) (cb : Array Value) (cf : B5 → B5 → Int) (f : Nat → Int) (blk n cap a m : Nat) (d : Nat → Nat) (w0 w : World) (eg : ∀ args w, (callFunc g args).run Tryz.prog w = .ok (.enter g args) w)
    (hC : CmpB L g cb cf f blk n w0) (hT : Turn blk w0 w) (hR : RowBd L w blk n d) (hd : ∀ k, k < n → d k < n) (hs2 : Sd f a m d) (hx : Xs a m (m + 1) d) (hmb : a + 1 < m) (hb : m + 1 ≤ n) (hn : n ≤ 1000000) :
    Calls Tryz.prog 107 #[.slice (some ⟨blk, 0, none⟩) n cap, .int .i64 a, .int .i64 m, .int .i64 ((m : Int) + 1), .func (.func g) #[] cb] w (SortPostB L f blk n a (m + 1) d w0) := by
  have HR := Lib.hid hR
  have HC := Lib.hid hC
  have HT := Lib.hid hT
  have HD := Lib.hid hd
  have HS := Lib.hid hs2
  have HX := Lib.hid hx
  clear hR hC hT hd hs2 hx
  have e1 : (((m : Int) - (a : Int)) == 1) = false := by simp; omega
  have e2 : (((m : Int) + 1 - (m : Int)) == 1) = true := by simp; omega
  go_enter Tryz.func107, Tryz.ntmps107
  go_wp2
  clear e1 e2
  go_loopw [14, 15] (fun vi vj wr => ∃ (i j : Nat), vi = .int .i64 i ∧ vj = .int .i64 j ∧ a ≤ i ∧ i ≤ j ∧ j ≤ m ∧ Bef2 f d m a i ∧ Nbf2 f d m j m ∧ Hid (RowBd L wr blk n d) ∧ Hid (Turn blk w0 wr)) (fun vi vj _ => (intOf vj).toNat - (intOf vi).toNat)
  case atStart => exact ⟨a, m, rfl, rfl, by omega, by omega, by omega, fun k h1 h2 => by omega, fun k h1 h2 => by omega, HR, HT⟩
  case round =>
    clear HR HT
    obtain ⟨i, j, rfl, rfl, hi, hij, hj, HL, HG, HR, HT⟩ := hrel
    by_cases hlt : i < j
    · obtain ⟨h, hh⟩ : ∃ h, h = (i + j) / 2 := ⟨_, rfl⟩
      have h1 : i ≤ h := by omega
      have h2 : h < j := by omega
      have h3 : h < n := by omega
      have h4 : (h : Int) < (n : Int) := by omega
      have h5 : m < n := by omega
      have h6 : (m : Int) < (n : Int) := by omega
      have h7 : (0 : Int) ≤ (h : Int) := by omega
      have h8 : (0 : Int) ≤ (m : Int) := by omega
      have hq : ((i : Int) + (j : Int)) / 2 = (h : Int) := by omega
      have c1 := rowB_all HR.out (k := h) (by omega)
      have c2 := rowB_all HR.out (k := m) (by omega)
      have hc := HC.out.all HT.out (d m) (d h) (HD.out _ (by omega)) (HD.out _ (by omega))
      have hv := Lib.hid (HC.out.lt (d m) (d h) (HD.out _ (by omega)) (HD.out _ (by omega)))
      obtain ⟨x, hx⟩ : ∃ x, x = d h := ⟨_, rfl⟩
      obtain ⟨y, hy⟩ : ∃ y, y = d m := ⟨_, rfl⟩
      rw [← hx] at c1
      rw [← hy] at c2
      rw [← hx, ← hy] at hc hv
      have HX1 := Lib.hid hx
      have HY1 := Lib.hid hy
      have HH := Lib.hid hh
      clear hx hy hh
      generalize cf (L y) (L x) = c at hc hv
      generalize L x = X at c1 c2 hc
      generalize L y = Y at c1 c2 hc
      obtain ⟨X1, X2, X3, X4, X5⟩ := X
      obtain ⟨Y1, Y2, Y3, Y4, Y5⟩ := Y
      dsimp only [vBd] at hc
      have c11 : ∀ p : GrewTo wr, p.to.cell? ⟨blk, h * 5, none⟩ = some (.int .i64 X1) := fun p => (c1 p).1
      have c12 : ∀ p : GrewTo wr, p.to.cell? ⟨blk, h * 5 + 1, none⟩ = some (.int .i64 X2) := fun p => (c1 p).2.1
      have c13 : ∀ p : GrewTo wr, p.to.cell? ⟨blk, h * 5 + 2, none⟩ = some (.int .i64 X3) := fun p => (c1 p).2.2.1
      have c14 : ∀ p : GrewTo wr, p.to.cell? ⟨blk, h * 5 + 3, none⟩ = some (.int .i64 X4) := fun p => (c1 p).2.2.2.1
      have c15 : ∀ p : GrewTo wr, p.to.cell? ⟨blk, h * 5 + 4, none⟩ = some (.int .i64 X5) := fun p => (c1 p).2.2.2.2
      have c21 : ∀ p : GrewTo wr, p.to.cell? ⟨blk, m * 5, none⟩ = some (.int .i64 Y1) := fun p => (c2 p).1
      have c22 : ∀ p : GrewTo wr, p.to.cell? ⟨blk, m * 5 + 1, none⟩ = some (.int .i64 Y2) := fun p => (c2 p).2.1
      have c23 : ∀ p : GrewTo wr, p.to.cell? ⟨blk, m * 5 + 2, none⟩ = some (.int .i64 Y3) := fun p => (c2 p).2.2.1
      have c24 : ∀ p : GrewTo wr, p.to.cell? ⟨blk, m * 5 + 3, none⟩ = some (.int .i64 Y4) := fun p => (c2 p).2.2.2.1
      have c25 : ∀ p : GrewTo wr, p.to.cell? ⟨blk, m * 5 + 4, none⟩ = some (.int .i64 Y5) := fun p => (c2 p).2.2.2.2
      clear c1 c2
      by_cases hl : c < 0
      · have hcd : decide (c < 0) = true := decide_eq_true hl
        go_wp2_with fail
        refine wp_region_grew (by kernel_rfl) (by kernel_rfl) ?_
        repeat (go_big_quiet_step (exact calls_grew (hc _)))
        refine wpQuiet_nil ?_
        intro w2 hw'
        have hg := grew_of hw'
        clear hw'
        have HR2 : Hid (RowBd L w2 blk n d) := HR.out.keep hg
        have HT2 : Hid (Turn blk w0 w2) := HT.out.grew hg
        clear c11 c12 c13 c14 c15 c21 c22 c23 c24 c25 hc HR HT hg hcd hq
        have HG2 : Nbf2 f d m h m := by
          intro k k1 k2
          have hf : f (d h) < f (d m) := by rw [← HX1.out, ← HY1.out]; exact hv.out.1 hl
          by_cases c : k = h
          · rw [c]; exact hf
          · have := HS.out h k (by omega) (by omega) k2
            unfold Ah at this; omega
        clear hv hl
        go_wp2
        go_roundw
        case rel => exact ⟨i, h, rfl, rfl, by omega, by omega, by omega, HL, HG2, HR2, HT2⟩
        case measure => simp only [intOf]; omega
      · have hcd : decide (c < 0) = false := decide_eq_false hl
        go_wp2_with fail
        refine wp_region_grew (by kernel_rfl) (by kernel_rfl) ?_
        repeat (go_big_quiet_step (exact calls_grew (hc _)))
        refine wpQuiet_nil ?_
        intro w2 hw'
        have hg := grew_of hw'
        clear hw'
        have HR2 : Hid (RowBd L w2 blk n d) := HR.out.keep hg
        have HT2 : Hid (Turn blk w0 w2) := HT.out.grew hg
        clear c11 c12 c13 c14 c15 c21 c22 c23 c24 c25 hc HR HT hg hcd hq
        have HL2 : Bef2 f d m a (h + 1) := by
          intro k k1 k2
          have hf : ¬ f (d h) < f (d m) := by rw [← HX1.out, ← HY1.out]; intro h9; have := hv.out.2 h9; omega
          by_cases c : k = h
          · rw [c]; exact hf
          · have := HS.out k h k1 (by omega) (by omega)
            unfold Ah at this; omega
        clear hv hl
        go_wp2
        go_roundw
        case rel => exact ⟨h + 1, j, by go_num, rfl, by omega, by omega, by omega, HL2, HG, HR2, HT2⟩
        case measure => simp only [intOf]; omega
    · obtain rfl : i = j := by omega
      have HF : Hid (Sd f a (m + 1) (shD d m i)) := shD_sorted HS.out HX.out (by omega) (by omega) HL HG
      have HM : Hid (Moves a (m + 1) d (shD d m i)) := shD_moves d a m i (by omega) (by omega)
      have HR2 : Hid (RowBd L wr blk n (shD d m m)) := by rw [shD_zero]; exact HR
      clear HL HG HR
      go_wp2
      go_loopw [17] (fun vk wr => ∃ (k : Nat), vk = .int .i64 k ∧ i ≤ k ∧ k ≤ m ∧ Hid (RowBd L wr blk n (shD d m k)) ∧ Hid (Turn blk w0 wr)) (fun vk _ => (intOf vk).toNat)
      case atStart => exact ⟨m, rfl, by omega, by omega, HR2, HT⟩
      case round =>
        clear HR2 HT
        obtain ⟨k, rfl, hk1, hk2, HR, HT⟩ := hrel
        by_cases hlt : i < k
        · obtain ⟨k, rfl⟩ : ∃ q, k = q + 1 := ⟨k - 1, by omega⟩
          have zj : ((k + 1 : Nat) : Int) = (k : Int) + 1 := by omega
          have HN := Lib.hid (shD_succ d m k hk2)
          generalize shD d m (k + 1) = e at *
          have k1 : (i : Int) < (k : Int) + 1 := by omega
          have k2 : (k : Int) + 1 < (n : Int) := by omega
          have k3 : (k : Int) < (n : Int) := by omega
          have k4 : (0 : Int) ≤ (k : Int) := by omega
          have k5 : (0 : Int) ≤ (k : Int) + 1 := by omega
          have k6 : IntKind.i64.wrap ((k : Int) + 1) = (k : Int) + 1 := by rw [IntKind.wrap_i64]; omega
          have k7 : IntKind.i64.wrap ((k : Int) + 1 - 1) = (k : Int) := by rw [IntKind.wrap_i64]; omega
          have c1 := rowB_cells HR.out (k := k + 1) (by omega)
          have c2 := rowB_cells HR.out (k := k) (by omega)
          have f1 := rowB_froz HR.out (k := k + 1) (by omega)
          have f2 := rowB_froz HR.out (k := k) (by omega)
          have c3 := rowB_two HR.out (k + 1) (k) (by omega) (by omega) (L (e (k)))
          have HSW : Hid (RowBd L (put5 (put5 wr blk ((k + 1) * 5) (L (e (k)))) blk ((k) * 5) (L (e (k + 1)))).drew blk n (sw e (k + 1) (k))) := rowB_swap HR.out (k + 1) (k) (by omega) (by omega) (by omega)
          have HTW : Hid (Turn blk w0 (put5 (put5 wr blk ((k + 1) * 5) (L (e (k)))) blk ((k) * 5) (L (e (k + 1)))).drew) := turn_put25 HT.out _ _ _ _
          clear HR HT
          generalize L (e (k + 1)) = x at c1 HSW HTW
          generalize L (e (k)) = y at c2 c3 HSW HTW
          obtain ⟨x1, x2, x3, x4, x5⟩ := x
          obtain ⟨y1, y2, y3, y4, y5⟩ := y
          simp only [put5] at c3 HSW HTW
          obtain ⟨c11, c12, c13, c14, c15⟩ := c1
          obtain ⟨c21, c22, c23, c24, c25⟩ := c2
          obtain ⟨c31, c32, c33, c34, c35⟩ := c3
          obtain ⟨f11, f12, f13, f14, f15⟩ := f1
          obtain ⟨f21, f22, f23, f24, f25⟩ := f2
          dsimp only at c11 c12 c13 c14 c15 c21 c22 c23 c24 c25 c31 c32 c33 c34 c35
          rw [zj]
          go_wp2_with fail
          go_big_region
          clear c11 c12 c13 c14 c15 c21 c22 c23 c24 c25 c31 c32 c33 c34 c35 f11 f12 f13 f14 f15 f21 f22 f23 f24 f25
          generalize (World.drew (World.setCell (World.setCell (World.setCell (World.setCell (World.setCell (World.setCell (World.setCell (World.setCell (World.setCell (World.setCell wr ⟨blk, (k + 1) * 5, none⟩ (.int .i64 y1)) ⟨blk, (k + 1) * 5 + 1, none⟩ (.int .i64 y2)) ⟨blk, (k + 1) * 5 + 2, none⟩ (.int .i64 y3)) ⟨blk, (k + 1) * 5 + 3, none⟩ (.int .i64 y4)) ⟨blk, (k + 1) * 5 + 4, none⟩ (.int .i64 y5)) ⟨blk, k * 5, none⟩ (.int .i64 x1)) ⟨blk, k * 5 + 1, none⟩ (.int .i64 x2)) ⟨blk, k * 5 + 2, none⟩ (.int .i64 x3)) ⟨blk, k * 5 + 3, none⟩ (.int .i64 x4)) ⟨blk, k * 5 + 4, none⟩ (.int .i64 x5))) = w3 at HSW HTW ⊢
          go_wp2
          go_roundw
          case rel => exact ⟨k, rfl, by omega, by omega, by rw [← HN.out]; exact HSW, HTW⟩
          case measure => simp only [intOf]; omega
        · obtain rfl : k = i := by omega
          go_wp2
          go_end0
          exact ⟨rfl, _, HM.out, HF.out, HR.out, HT.out⟩
end Go.Proofs.YtahioajpmlochaaGreat.NumK
namespace Go.Proofs.YtahioajpmlochaaGreat.NumK
open Go.RowKit

set_option maxRecDepth 100000 in
set_option maxHeartbeats 4000000 in
theorem swapRangeB_any {L : Nat → B5} (blk n cap a b m : Nat) (fv : Value) (d : Nat → Nat) (w : World) (hR : RowBd L w blk n d) (h1 : a + m ≤ b) (h2 : b + m ≤ n) (hn : n ≤ 1000000) :
    Calls Tryz.prog 111 #[.slice (some ⟨blk, 0, none⟩) n cap, .int .i64 a, .int .i64 b, .int .i64 m, fv] w fun e w' => e = .returned (.tuple #[]) ∧ RowBd L w' blk n (swr d a b m) ∧ Turn blk w w' := by
  have HR : Hid (RowBd L w blk n (swr d a b 0)) := by rw [swr_zero]; exact hR
  clear hR
  go_enter Tryz.func111, Tryz.ntmps111
  go_wp2
  go_loopw [10] (fun i wr => ∃ k : Nat, k ≤ m ∧ i = .int .i64 k ∧ Hid (RowBd L wr blk n (swr d a b k)) ∧ Hid (Turn blk w wr)) (fun i _ => m - (intOf i).toNat)
  case atStart => exact ⟨0, Nat.zero_le _, rfl, HR, Turn.refl _ _⟩
  case round =>
    clear HR
    obtain ⟨k, hk, rfl, HR, HT⟩ := hrel
    by_cases hlt : k < m
    · have HN : Hid (swr d a b (k + 1) = sw (swr d a b k) (a + k) (b + k)) := (swr_succ d a b k (by omega)).symm
      generalize swr d a b k = e at *
      have HS : Hid (RowBd L (put5 (put5 wr blk ((a + k) * 5) (L (e (b + k)))) blk ((b + k) * 5) (L (e (a + k)))).drew blk n (sw e (a + k) (b + k))) := rowB_swap HR.out (a + k) (b + k) (by omega) (by omega) (by omega)
      have HT2 : Hid (Turn blk w (put5 (put5 wr blk ((a + k) * 5) (L (e (b + k)))) blk ((b + k) * 5) (L (e (a + k)))).drew) := turn_put25 HT.out _ _ _ _
      have c1 := rowB_cells HR.out (k := a + k) (by omega)
      have c2 := rowB_cells HR.out (k := b + k) (by omega)
      have f1 := rowB_froz HR.out (k := a + k) (by omega)
      have f2 := rowB_froz HR.out (k := b + k) (by omega)
      have c3 := rowB_two HR.out (a + k) (b + k) (by omega) (by omega) (L (e (b + k)))
      obtain ⟨x, hx⟩ : ∃ x, x = L (e (a + k)) := ⟨_, rfl⟩
      obtain ⟨y, hy⟩ : ∃ y, y = L (e (b + k)) := ⟨_, rfl⟩
      obtain ⟨p, hp⟩ : ∃ p, p = a + k := ⟨_, rfl⟩
      obtain ⟨q, hq⟩ : ∃ q, q = b + k := ⟨_, rfl⟩
      have ep : ((a : Int) + (k : Int)).toNat = p := by omega
      have eq : ((b : Int) + (k : Int)).toNat = q := by omega
      have wp : IntKind.i64.wrap ((a : Int) + (k : Int)) = (a : Int) + (k : Int) := by rw [IntKind.wrap_i64]; omega
      have wq : IntKind.i64.wrap ((b : Int) + (k : Int)) = (b : Int) + (k : Int) := by rw [IntKind.wrap_i64]; omega
      have p0 : 0 ≤ (a : Int) + (k : Int) := by omega
      have q0 : 0 ≤ (b : Int) + (k : Int) := by omega
      have p1 : (a : Int) + (k : Int) < (n : Int) := by omega
      have q1 : (b : Int) + (k : Int) < (n : Int) := by omega
      rw [← hx, ← hy, ← hp, ← hq] at HS HT2
      rw [← hx, ← hp] at c1
      rw [← hy, ← hq] at c2
      rw [← hp] at f1
      rw [← hq] at f2
      rw [← hy, ← hq, ← hp] at c3
      rw [← hp, ← hq] at HN
      clear hx hy hp hq HR HT
      obtain ⟨x1, x2, x3, x4, x5⟩ := x
      obtain ⟨y1, y2, y3, y4, y5⟩ := y
      simp only [put5] at c3 HS HT2
      obtain ⟨c11, c12, c13, c14, c15⟩ := c1
      obtain ⟨c21, c22, c23, c24, c25⟩ := c2
      obtain ⟨c31, c32, c33, c34, c35⟩ := c3
      obtain ⟨f11, f12, f13, f14, f15⟩ := f1
      obtain ⟨f21, f22, f23, f24, f25⟩ := f2
      dsimp only at c11 c12 c13 c14 c15 c21 c22 c23 c24 c25 c31 c32 c33 c34 c35
      go_wp2
      go_big_region
      clear c11 c12 c13 c14 c15 c21 c22 c23 c24 c25 c31 c32 c33 c34 c35 f11 f12 f13 f14 f15 f21 f22 f23 f24 f25 ep eq wp wq
      generalize (World.drew (World.setCell (World.setCell (World.setCell (World.setCell (World.setCell (World.setCell (World.setCell (World.setCell (World.setCell (World.setCell wr ⟨blk, p * 5, none⟩ (.int .i64 y1)) ⟨blk, p * 5 + 1, none⟩ (.int .i64 y2)) ⟨blk, p * 5 + 2, none⟩ (.int .i64 y3)) ⟨blk, p * 5 + 3, none⟩ (.int .i64 y4)) ⟨blk, p * 5 + 4, none⟩ (.int .i64 y5)) ⟨blk, q * 5, none⟩ (.int .i64 x1)) ⟨blk, q * 5 + 1, none⟩ (.int .i64 x2)) ⟨blk, q * 5 + 2, none⟩ (.int .i64 x3)) ⟨blk, q * 5 + 3, none⟩ (.int .i64 x4)) ⟨blk, q * 5 + 4, none⟩ (.int .i64 x5))) = w2 at HS HT2 ⊢
      go_wp2
      go_roundw
      case rel => exact ⟨k + 1, by omega, by go_num, by rw [HN.out]; exact HS, HT2⟩
      case measure => simp [intOf]; omega
    · obtain rfl : k = m := by omega
      go_wp2
      go_end0
      exact ⟨rfl, HR.out, HT.out⟩
end Go.Proofs.YtahioajpmlochaaGreat.NumK
namespace Go.Proofs.YtahioajpmlochaaGreat.NumK
open Go.RowKit

set_option maxRecDepth 100000 in
set_option maxHeartbeats 1000000 in
theorem rotateB_any {L : Nat → B5} (blk n cap a m b : Nat) (fv : Value) (d : Nat → Nat) (w : World) (hR : RowBd L w blk n d) (h1 : a < m) (h2 : m < b) (h3 : b ≤ n) (hn : n ≤ 1000000) :
    Calls Tryz.prog 109 #[.slice (some ⟨blk, 0, none⟩) n cap, .int .i64 a, .int .i64 m, .int .i64 b, fv] w fun e w' => e = .returned (.tuple #[]) ∧ RowBd L w' blk n (rot d a m b) ∧ Turn blk w w' := by
  have HR : Hid (RowBd L w blk n d) := hR
  clear hR
  go_enter Tryz.func109, Tryz.ntmps109
  go_wp2
  go_loopw [10, 11] (fun vi vj wr => ∃ (i j : Nat) (e : Nat → Nat), vi = .int .i64 i ∧ vj = .int .i64 j ∧ 0 < i ∧ 0 < j ∧ a + i ≤ m ∧ m + j ≤ b ∧ Hid (RowBd L wr blk n e) ∧ Hid (rot e (m - i) m (m + j) = rot d a m b) ∧ Hid (Turn blk w wr)) (fun vi vj _ => (intOf vi).toNat + (intOf vj).toNat)
  case atStart =>
    refine ⟨m - a, b - m, d, by congr 1; omega, by congr 1; omega, by omega, by omega, by omega, by omega, HR, ?_, Turn.refl _ _⟩
    show _ = _
    rw [show m - (m - a) = a from by omega, show m + (b - m) = b from by omega]
  case round =>
    clear HR
    obtain ⟨i, j, e, rfl, rfl, hi, hj, hai, hjb, HR, HE, HT⟩ := hrel
    have ei : ((m - i : Nat) : Int) = (m : Int) - (i : Int) := by omega
    by_cases c1 : i = j
    · subst c1
      have HF : Hid (swr e (m - i) m i = rot d a m b) := (rot_eq e m i (by omega)).trans HE.out
      have C := swapRangeB_any blk n cap (m - i) m i fv e wr HR.out (by omega) (by omega) hn
      rw [ei] at C
      have C := Lib.hid C
      clear ei
      go_wp2_with (go_at_call 111; ((with_reducible refine C.out.mono ?_); rintro r w2 ⟨rfl, hR2, hT2⟩))
      go_end0
      exact ⟨rfl, by rw [← HF.out]; exact hR2, HT.out.trans hT2⟩
    · by_cases c2 : j < i
      · have HF : Hid (rot (swr e (m - i) m j) (m - (i - j)) m (m + j) = rot d a m b) := (rot_gt e m i j (by omega) c2).trans HE.out
        have C := swapRangeB_any blk n cap (m - i) m j fv e wr HR.out (by omega) (by omega) hn
        rw [ei] at C
        have C := Lib.hid C
        clear ei
        have d1 : ((i : Int) != (j : Int)) = true := by simp; omega
        clear c1
        go_wp2_with (go_at_call 111; ((with_reducible refine C.out.mono ?_); rintro r w2 ⟨rfl, hR2, hT2⟩; have HR2 := Lib.hid hR2; have HT2 := Lib.hid hT2; clear hR2 hT2))
        go_roundw
        case rel => exact ⟨i - j, j, _, by congr 1; omega, rfl, by omega, by omega, by omega, by omega, HR2, HF, HT.out.trans HT2.out⟩
        case measure => simp [intOf]; omega
      · have HF : Hid (rot (swr e (m - i) (m + j - i) i) (m - i) m (m + (j - i)) = rot d a m b) := (rot_lt e m i j (by omega) (by omega)).trans HE.out
        have C := swapRangeB_any blk n cap (m - i) (m + j - i) i fv e wr HR.out (by omega) (by omega) hn
        have ej : ((m + j - i : Nat) : Int) = (m : Int) + (j : Int) - (i : Int) := by omega
        rw [ei, ej] at C
        have C := Lib.hid C
        clear ei ej
        have d1 : ((i : Int) != (j : Int)) = true := by simp; omega
        have c3 : i < j := by omega
        clear c1
        go_wp2_with (go_at_call 111; ((with_reducible refine C.out.mono ?_); rintro r w2 ⟨rfl, hR2, hT2⟩; have HR2 := Lib.hid hR2; have HT2 := Lib.hid hT2; clear hR2 hT2))
        go_roundw
        case rel => exact ⟨i, j - i, _, rfl, by congr 1; omega, by omega, by omega, by omega, by omega, HR2, HF, HT.out.trans HT2.out⟩
        case measure => simp [intOf]; omega
end Go.Proofs.YtahioajpmlochaaGreat.NumK
