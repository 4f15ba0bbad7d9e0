/- Contracts of the reference's add and shift. -/
import Derived.Test.YtkkemmfghjgmeaaRef01
import Derived.Test.YtkkemmfghjgmeaaOwn2
import Derived.Test.YtkkemmfghjgmeaaShare1
import Derived.BigRegion
namespace Go.Proofs.Ytkkemmfghjgmeaa.NumK
open Go.RowKit

/-! ### add, where the sum is a wide -/
set_option maxRecDepth 100000 in
set_option maxHeartbeats 2000000 in
theorem refAdd_any (x y : Int) (w : World) (hx : isWide x = true) (hy : isWide y = true) (hs : isWide (x + y) = true) :
    Calls Try.prog 48 #[.agg #[.int .i64 (hi64 x), .int .u64 (lo64 x)], .agg #[.int .i64 (hi64 y), .int .u64 (lo64 y)]] w fun e w' => e = .returned (.tuple #[.agg #[.int .i64 (hi64 (x + y)), .int .u64 (lo64 (x + y))], .bool true]) ∧ Grew w w' := by
  have bx := lo_bounds x
  have byy := lo_bounds y
  have bs := lo_bounds (x + y)
  have ex := w_eq x
  have ey := w_eq y
  have es := w_eq (x + y)
  have h2 := hi_bounds x hx
  have h3 := hi_bounds y hy
  have h4 := hi_bounds (x + y) hs
  obtain ⟨s, hsd⟩ : ∃ s, s = (lo64 x + lo64 y + 0) % 18446744073709551616 := ⟨_, rfl⟩
  obtain ⟨d, hdd⟩ : ∃ d, d = (lo64 x + lo64 y + 0) / 18446744073709551616 := ⟨_, rfl⟩
  have A1 := add64_named (lo64 x) (lo64 y) 0 s d (by omega) (by omega) (by omega) (by omega) hsd hdd
  have U := w_unique (x + y) (hi64 x + hi64 y + d) s (by rw [hsd, hdd]; omega) (by omega) (by omega)
  have ux : ∀ z : Int, -9223372036854775808 ≤ z → z ≤ 9223372036854775807 → IntKind.u64.wrap z = if z < 0 then z + 18446744073709551616 else z := fun z _ _ => by rw [IntKind.wrap_u64]; split <;> omega
  have u1 := ux (hi64 x) h2.1 h2.2
  have u2 := ux (hi64 y) h3.1 h3.2
  obtain ⟨uh, hu⟩ : ∃ u, u = IntKind.u64.wrap (hi64 x) := ⟨_, rfl⟩
  obtain ⟨vh, hv⟩ : ∃ v, v = IntKind.u64.wrap (hi64 y) := ⟨_, rfl⟩
  have hub : 0 ≤ uh ∧ uh < 18446744073709551616 := by rw [hu, u1]; split <;> omega
  have hvb : 0 ≤ vh ∧ vh < 18446744073709551616 := by rw [hv, u2]; split <;> omega
  have hdb : 0 ≤ d ∧ d ≤ 1 := by rw [hdd]; omega
  obtain ⟨g, hg⟩ : ∃ g, g = (uh + vh + d) % 18446744073709551616 := ⟨_, rfl⟩
  obtain ⟨g2, hg2⟩ : ∃ g2, g2 = (uh + vh + d) / 18446744073709551616 := ⟨_, rfl⟩
  have A2 := add64_named uh vh d g g2 hub.1 hvb.1 hdb.1 hdb.2 hg hg2
  have hw : wrap64 g = hi64 (x + y) := by
    rw [U.1] at h4 ⊢
    have : (hi64 x + hi64 y + d - g) % 18446744073709551616 = 0 := by
      rw [hg, hu, hv, u1, u2]
      split <;> split <;> omega
    have hgb : 0 ≤ g ∧ g < 18446744073709551616 := by rw [hg]; omega
    unfold wrap64; omega
  have hgb : 0 ≤ g ∧ g < 18446744073709551616 := by rw [hg]; omega
  have hsl : s = lo64 (x + y) := U.2.symm
  have hsg : ¬ ((hi64 x < 0) ↔ ¬ (hi64 y < 0)) → ((hi64 (x + y) < 0) ↔ (hi64 x < 0)) := by intro h; omega
  have HSG := Lib.hid hsg
  have HU := Lib.hid hu.symm
  have HV := Lib.hid hv.symm
  have hu' : IntKind.u64.wrap (hi64 x) = uh := hu.symm
  have hv' : IntKind.u64.wrap (hi64 y) = vh := hv.symm
  clear U ux u1 u2 hu hv hsg bs es ex ey hx hy hs hsd hdd hg hg2 h4
  rw [hsl] at A1
  clear hsl
  generalize hi64 (x + y) = rh at *
  generalize lo64 (x + y) = rl at *
  generalize hi64 x = xh at *
  generalize lo64 x = xl at *
  generalize hi64 y = yh at *
  generalize lo64 y = yl at *
  obtain ⟨b1, b2⟩ := bx
  obtain ⟨b3, b4⟩ := byy
  obtain ⟨b5, b6⟩ := h2
  obtain ⟨b7, b8⟩ := h3
  obtain ⟨b9, b10⟩ := hdb
  obtain ⟨b11, b12⟩ := hub
  obtain ⟨b13, b14⟩ := hvb
  obtain ⟨b15, b16⟩ := hgb
  have HR : ∀ w : World, Own2 (((w.alloc (.cells #[.int .i64 xh, .int .u64 xl] 38)).alloc (.cells #[.int .i64 yh, .int .u64 yl] 38)).alloc (.cells #[.int .i64 0, .int .u64 0] 38)) (w.heap.size + 1 + 1) (.int .i64 0) (.int .u64 0) := fun w => Own2.new _ _ _ _ _ (by simp)
  have HX : ∀ w : World, Own2 (((w.alloc (.cells #[.int .i64 xh, .int .u64 xl] 38)).alloc (.cells #[.int .i64 yh, .int .u64 yl] 38)).alloc (.cells #[.int .i64 0, .int .u64 0] 38)) w.heap.size (.int .i64 xh) (.int .u64 xl) := fun w => (Own2.new w _ _ _ _ rfl).keep (grew_al (grew_al (grew_refl _) _) _)
  have HY : ∀ w : World, Own2 (((w.alloc (.cells #[.int .i64 xh, .int .u64 xl] 38)).alloc (.cells #[.int .i64 yh, .int .u64 yl] 38)).alloc (.cells #[.int .i64 0, .int .u64 0] 38)) (w.heap.size + 1) (.int .i64 yh) (.int .u64 yl) := fun w => (Own2.new _ _ _ _ _ (by simp)).keep (grew_al (grew_refl _) _)
  have HRH := Lib.hid (HR w)
  have HXH := Lib.hid (HX w)
  have HYH := Lib.hid (HY w)
  clear HR HX HY
  by_cases c1 : xh < 0 <;> by_cases c2 : yh < 0
  all_goals
    first
      | (have d1 : decide (xh < 0) = true := decide_eq_true c1)
      | (have d1 : decide (xh < 0) = false := decide_eq_false c1)
    first
      | (have d2 : decide (yh < 0) = true := decide_eq_true c2)
      | (have d2 : decide (yh < 0) = false := decide_eq_false c2)
    first
      | (have c3 : rh < 0 := by have := HSG.out; omega
         have d3 : decide (rh < 0) = true := decide_eq_true c3)
      | (have c3 : ¬ rh < 0 := by have := HSG.out; omega
         have d3 : decide (rh < 0) = false := decide_eq_false c3)
      | skip
    go_enter Try.func48, Try.ntmps48
    go_wp2_with (first | rw [A1] | rw [A2])
    have k1 := HRH.out.c0
    have k2 := HRH.out.c1
    have k3 := HRH.out.f0
    have k4 := HRH.out.f1
    have k5 := HXH.out.c0
    have k6 := HYH.out.c0
    have hR := HRH.out
    have hG : Grew w (((w.alloc (.cells #[.int .i64 xh, .int .u64 xl] 38)).alloc (.cells #[.int .i64 yh, .int .u64 yl] 38)).alloc (.cells #[.int .i64 0, .int .u64 0] 38)) := grew_al (grew_al (grew_al (grew_refl _) _) _) _
    generalize ((w.alloc (.cells #[.int .i64 xh, .int .u64 xl] 38)).alloc (.cells #[.int .i64 yh, .int .u64 yl] 38)).alloc (.cells #[.int .i64 0, .int .u64 0] 38) = w1 at k1 k2 k3 k4 k5 k6 hR hG ⊢
    have HR1 := Lib.hid hR
    have HG1 := Lib.hid hG
    clear hR hG HRH HXH HYH A1 A2 hu' hv' hw
    go_big_region
    clear k1 k2 k3 k4 k5 k6
    have HS := Lib.hid ((HR1.out.set (.int .i64 rh) (.int .u64 rl)).keep (grew_drew (grew_refl _)))
    go_wp2
    exact bodyPost_ret (v := .tuple #[.agg #[.int .i64 rh, .int .u64 rl], .bool true]) (by simp [results, Try.results48, go_sem, HS.out.c0, HS.out.c1]) rfl ⟨rfl, grew_drew (grew_set (grew_set HG1.out _ (by simp; omega)) _ (by simp; omega))⟩
end Go.Proofs.Ytkkemmfghjgmeaa.NumK
