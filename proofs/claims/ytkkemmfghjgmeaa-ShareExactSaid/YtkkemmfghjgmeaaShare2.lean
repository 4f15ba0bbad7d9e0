/- Contracts of package share: the comparison of remainders, greatestFirst. -/
import Derived.Test.YtkkemmfghjgmeaaShare1
import Derived.Test.YtkkemmfghjgmeaaSortStable
import Derived.Test.YtkkemmfghjgmeaaSplitMath
import Derived.Laws.MakeOwn
namespace Go.Proofs.Ytkkemmfghjgmeaa.NumK
open Go.RowKit

def cmpV (f : Nat → Int) (x y : Nat) : Int := if f y < f x then -1 else if f x < f y then 1 else 0
theorem cmpV_lt (f : Nat → Int) (x y : Nat) : cmpV f x y < 0 ↔ f y < f x := by
  unfold cmpV; split
  · omega
  · split <;> omega

set_option maxRecDepth 100000 in
theorem gfCmp_any (A : Option Addr) (n c B : Nat) (xs : List Int) (x y : Nat) (w : World) (hbox : w.cell? ⟨B, 0, none⟩ = some (.slice A n c)) (hB : B < w.heap.size) (hz : Wides w A n xs) (hx : x < n) (hy : y < n) (hn : n ≤ 1000000) :
    Calls Try.prog 45 (#[.int .i64 x, .int .i64 y] ++ #[.pointer (some ⟨B, 0, none⟩)]) w fun e w' => e = .returned (.int .i64 (cmpV (fun k => xs.getD k 0) x y)) ∧ Grew w w' := by
  obtain ⟨b, o, rfl, hb, hc⟩ := hz.2 (by omega)
  have b1 : ∀ p : GrewTo w, p.to.cell? ⟨B, 0, none⟩ = some (.slice (some ⟨b, o, none⟩) n c) := fun p => (grew_cell p.h (p := ⟨B, 0, none⟩) hB).trans hbox
  have x1 : ∀ p : GrewTo w, p.to.cell? ⟨b, o + x * 2, none⟩ = some (.int .i64 (hi64 (xs.getD x 0))) := fun p => (grew_cell p.h (p := ⟨b, o + x * 2, none⟩) hb).trans (hc x hx).1
  have x2 : ∀ p : GrewTo w, p.to.cell? ⟨b, o + x * 2 + 1, none⟩ = some (.int .u64 (lo64 (xs.getD x 0))) := fun p => (grew_cell p.h (p := ⟨b, o + x * 2 + 1, none⟩) hb).trans (hc x hx).2
  have y1 : ∀ p : GrewTo w, p.to.cell? ⟨b, o + y * 2, none⟩ = some (.int .i64 (hi64 (xs.getD y 0))) := fun p => (grew_cell p.h (p := ⟨b, o + y * 2, none⟩) hb).trans (hc y hy).1
  have y2 : ∀ p : GrewTo w, p.to.cell? ⟨b, o + y * 2 + 1, none⟩ = some (.int .u64 (lo64 (xs.getD y 0))) := fun p => (grew_cell p.h (p := ⟨b, o + y * 2 + 1, none⟩) hb).trans (hc y hy).2
  have CM : Hid (cmpV (fun k => xs.getD k 0) x y = if xs.getD y 0 < xs.getD x 0 then -1 else if xs.getD x 0 < xs.getD y 0 then 1 else 0) := rfl
  generalize cmpV (fun k => xs.getD k 0) x y = r at *
  generalize xs.getD x 0 = X at *
  generalize xs.getD y 0 = Y at *
  have L1 := fun w => wless_any Y X w
  have L2 := fun w => wless_any X Y w
  have n1 : (x : Int) < (n : Int) := by omega
  have n2 : (y : Int) < (n : Int) := by omega
  clear hbox hc hz
  generalize hi64 X = Xh at *
  generalize lo64 X = Xl at *
  generalize hi64 Y = Yh at *
  generalize lo64 Y = Yl at *
  by_cases h1 : Y < X
  · have d1 : decide (Y < X) = true := decide_eq_true h1
    rw [d1] at L1
    have CM2 : Hid (r = -1) := by show _ = _; rw [CM.out, if_pos h1]
    clear d1 CM
    go_enter Try.func45, Try.ntmps45
    go_wp2_with fail
    refine wp_region_grew (by kernel_rfl) (by kernel_rfl) ?_
    repeat (go_big_quiet_step (exact calls_grew (L1 _)))
    refine wpQuiet_nil ?_
    intro w2 hw'
    have hg := Lib.hid (grew_of hw')
    clear hw' x1 x2 y1 y2 b1
    go_wp2
    go_ret
    exact ⟨ret_i CM2.out.symm, hg.out⟩
  · have d1 : decide (Y < X) = false := decide_eq_false h1
    rw [d1] at L1
    have CM1 : Hid (r = if X < Y then 1 else 0) := by show _ = _; rw [CM.out, if_neg h1]
    clear d1 CM
    by_cases h2 : X < Y
    · have d2 : decide (X < Y) = true := decide_eq_true h2
      have CM2 : Hid (r = 1) := by show _ = _; rw [CM1.out, if_pos h2]
      rw [d2] at L2
      clear d2 CM1
      go_enter Try.func45, Try.ntmps45
      go_wp2_with fail
      refine wp_region_grew (by kernel_rfl) (by kernel_rfl) ?_
      repeat (go_big_quiet_step (exact calls_grew (L1 _)))
      refine wpQuiet_nil ?_
      intro w2 hw'
      have hg := Lib.hid (grew_of hw')
      have x1' : ∀ p : GrewTo w2, _ := fun p => x1 ⟨p.to, grew_trans hg.out p.h⟩
      have x2' : ∀ p : GrewTo w2, _ := fun p => x2 ⟨p.to, grew_trans hg.out p.h⟩
      have y1' : ∀ p : GrewTo w2, _ := fun p => y1 ⟨p.to, grew_trans hg.out p.h⟩
      have y2' : ∀ p : GrewTo w2, _ := fun p => y2 ⟨p.to, grew_trans hg.out p.h⟩
      have b1' : ∀ p : GrewTo w2, _ := fun p => b1 ⟨p.to, grew_trans hg.out p.h⟩
      clear hw' x1 x2 y1 y2 b1
      go_wp2_with fail
      refine wp_region_grew (by kernel_rfl) (by kernel_rfl) ?_
      repeat (go_big_quiet_step (exact calls_grew (L2 _)))
      refine wpQuiet_nil ?_
      intro w3 hw'
      have hg2 := Lib.hid (grew_of hw')
      clear hw' x1' x2' y1' y2' b1'
      go_wp2
      go_ret
      exact ⟨ret_i CM2.out.symm, grew_trans hg.out hg2.out⟩
    · have d2 : decide (X < Y) = false := decide_eq_false h2
      have CM2 : Hid (r = 0) := by show _ = _; rw [CM1.out, if_neg h2]
      rw [d2] at L2
      clear d2 CM1
      go_enter Try.func45, Try.ntmps45
      go_wp2_with fail
      refine wp_region_grew (by kernel_rfl) (by kernel_rfl) ?_
      repeat (go_big_quiet_step (exact calls_grew (L1 _)))
      refine wpQuiet_nil ?_
      intro w2 hw'
      have hg := Lib.hid (grew_of hw')
      have x1' : ∀ p : GrewTo w2, _ := fun p => x1 ⟨p.to, grew_trans hg.out p.h⟩
      have x2' : ∀ p : GrewTo w2, _ := fun p => x2 ⟨p.to, grew_trans hg.out p.h⟩
      have y1' : ∀ p : GrewTo w2, _ := fun p => y1 ⟨p.to, grew_trans hg.out p.h⟩
      have y2' : ∀ p : GrewTo w2, _ := fun p => y2 ⟨p.to, grew_trans hg.out p.h⟩
      have b1' : ∀ p : GrewTo w2, _ := fun p => b1 ⟨p.to, grew_trans hg.out p.h⟩
      clear hw' x1 x2 y1 y2 b1
      go_wp2_with fail
      refine wp_region_grew (by kernel_rfl) (by kernel_rfl) ?_
      repeat (go_big_quiet_step (exact calls_grew (L2 _)))
      refine wpQuiet_nil ?_
      intro w3 hw'
      have hg2 := Lib.hid (grew_of hw')
      clear hw' x1' x2' y1' y2' b1'
      go_wp2
      go_ret
      exact ⟨ret_i CM2.out.symm, grew_trans hg.out hg2.out⟩

theorem gfCmpOK (A : Option Addr) (n c B blk : Nat) (xs : List Int) (w0 : World) (hbox : w0.cell? ⟨B, 0, none⟩ = some (.slice A n c)) (hB : B < w0.heap.size) (hBb : B ≠ blk) (hz : Wides w0 A n xs) (hA : ∀ a, A = some a → a.block ≠ blk) (hn : n ≤ 1000000) :
    CmpOK 45 #[.pointer (some ⟨B, 0, none⟩)] (cmpV (fun k => xs.getD k 0)) (fun k => xs.getD k 0) blk n w0 := by
  refine ⟨fun x y => cmpV_lt _ x y, fun w hT x y hx hy => ?_⟩
  refine gfCmp_any A n c B xs x y w ((hT.cell (p := ⟨B, 0, none⟩) hB hBb).trans hbox) (Nat.lt_of_lt_of_le hB hT.size) ⟨hz.1, fun h => ?_⟩ hx hy hn
  obtain ⟨b, o, rfl, hb, hc⟩ := hz.2 h
  have hbb := hA _ rfl
  exact ⟨b, o, rfl, Nat.lt_of_lt_of_le hb hT.size, fun j hj => ⟨(hT.cell (p := ⟨b, o + j * 2, none⟩) hb hbb).trans (hc j hj).1, (hT.cell (p := ⟨b, o + j * 2 + 1, none⟩) hb hbb).trans (hc j hj).2⟩⟩
end Go.Proofs.Ytkkemmfghjgmeaa.NumK
