/- The sort's exchange of two ranges; the turn of two neighbours. -/
import Derived.Test.YtkkemmfghjgmeaaRow
namespace Go.Proofs.Ytkkemmfghjgmeaa.NumK
open Go.RowKit

set_option maxRecDepth 100000 in
set_option maxHeartbeats 1000000 in
theorem swapRange_any (blk n cap a b m : Nat) (fv : Value) (d : Nat → Nat) (w : World) (hR : RowW w blk n d) (h1 : a + m ≤ b) (h2 : b + m ≤ n) (hn : n ≤ 1000000) :
    Calls Try.prog 63 #[.slice (some ⟨blk, 0, none⟩) n cap, .int .i64 a, .int .i64 b, .int .i64 m, fv] w fun e w' => e = .returned (.tuple #[]) ∧ RowW w' blk n (swr d a b m) ∧ Turn blk w w' := by
  have HR : Hid (RowW w blk n (swr d a b 0)) := by rw [swr_zero]; exact hR
  clear hR
  go_enter Try.func63, Try.ntmps63
  go_wp2
  go_loopw [10] (fun i wr => ∃ k : Nat, k ≤ m ∧ i = .int .i64 k ∧ Hid (RowW wr blk n (swr d a b k)) ∧ Hid (Turn blk w wr)) (fun i _ => m - (intOf i).toNat)
  case atStart => exact ⟨0, Nat.zero_le _, rfl, HR, Turn.refl _ _⟩
  case round =>
    clear HR
    obtain ⟨k, hk, rfl, HR, HT⟩ := hrel
    by_cases hlt : k < m
    · have HN : Hid (swr d a b (k + 1) = sw (swr d a b k) (a + k) (b + k)) := (swr_succ d a b k (by omega)).symm
      generalize swr d a b k = e at *
      have HS : Hid (RowW ((wr.setCell ⟨blk, a + k, none⟩ (.int .i64 (e (b + k)))).setCell ⟨blk, b + k, none⟩ (.int .i64 (e (a + k)))).drew blk n (sw e (a + k) (b + k))) := HR.out.swap (a + k) (b + k) (by omega) (by omega) (by omega)
      have HT2 : Hid (Turn blk w ((wr.setCell ⟨blk, a + k, none⟩ (.int .i64 (e (b + k)))).setCell ⟨blk, b + k, none⟩ (.int .i64 (e (a + k)))).drew) := ((HT.out.setCell _ _).setCell _ _).drew
      have c1 := (HR.out.2 (a + k) (by omega)).1
      have c2 := (HR.out.2 (b + k) (by omega)).1
      have f1 := (HR.out.2 (a + k) (by omega)).2
      have f2 := (HR.out.2 (b + k) (by omega)).2
      have c3 := HR.out.two (a + k) (b + k) (by omega) (by omega) (.int .i64 (e (b + k)))
      obtain ⟨x, hx⟩ : ∃ x, x = e (a + k) := ⟨_, rfl⟩
      obtain ⟨y, hy⟩ : ∃ y, y = e (b + k) := ⟨_, rfl⟩
      obtain ⟨p, hp⟩ : ∃ p, p = a + k := ⟨_, rfl⟩
      obtain ⟨q, hq⟩ : ∃ q, q = b + k := ⟨_, rfl⟩
      have ep : ((a : Int) + (k : Int)).toNat = p := by omega
      have eq : ((b : Int) + (k : Int)).toNat = q := by omega
      have wp : IntKind.i64.wrap ((a : Int) + (k : Int)) = (a : Int) + (k : Int) := by rw [IntKind.wrap_i64]; omega
      have wq : IntKind.i64.wrap ((b : Int) + (k : Int)) = (b : Int) + (k : Int) := by rw [IntKind.wrap_i64]; omega
      have p0 : 0 ≤ (a : Int) + (k : Int) := by omega
      have q0 : 0 ≤ (b : Int) + (k : Int) := by omega
      have p1 : (a : Int) + (k : Int) < (n : Int) := by omega
      have q1 : (b : Int) + (k : Int) < (n : Int) := by omega
      rw [← hx, ← hy, ← hp, ← hq] at HS HT2
      rw [← hx, ← hp] at c1
      rw [← hy, ← hq] at c2
      rw [← hp] at f1
      rw [← hq] at f2
      rw [← hy, ← hq, ← hp] at c3
      rw [← hp, ← hq] at HN
      clear hx hy hp hq HR HT
      go_wp2
      go_big_region
      clear c1 c2 c3 f1 f2 ep eq wp wq
      generalize ((wr.setCell ⟨blk, p, none⟩ (.int .i64 y)).setCell ⟨blk, q, none⟩ (.int .i64 x)).drew = w2 at HS HT2 ⊢
      go_wp2
      go_roundw
      case rel => exact ⟨k + 1, by omega, by go_num, by rw [HN.out]; exact HS, HT2⟩
      case measure => simp [intOf]; omega
    · obtain rfl : k = m := by omega
      go_wp2
      go_end0
      exact ⟨rfl, HR.out, HT.out⟩
end Go.Proofs.Ytkkemmfghjgmeaa.NumK
