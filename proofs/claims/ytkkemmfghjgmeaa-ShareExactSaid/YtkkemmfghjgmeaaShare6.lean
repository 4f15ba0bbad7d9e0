/- Contracts of package share: minus; math/bits.Len. -/
import Derived.Test.YtkkemmfghjgmeaaShare1
import Derived.Test.YtkkemmfghjgmeaaDiv64
import Derived.Test.YtkkemmfghjgmeaaOwn2
namespace Go.Proofs.Ytkkemmfghjgmeaa.NumK
open Go.RowKit

theorem bitLen_gt : ∀ (k x : Nat), x ≤ k → x < 2 ^ 64 → x < 2 ^ Lib.bitLen x := by
  intro k
  induction k with
  | zero => intro x h _; obtain rfl : x = 0 := by omega
            exact Nat.two_pow_pos _
  | succ k ih =>
    intro x h hx
    by_cases c : x = 0
    · subst c; exact Nat.two_pow_pos _
    · rw [Lib.bitLen_half x c hx, Nat.add_comm, Nat.pow_succ]
      have := ih (x / 2) (by omega) (by omega)
      omega

theorem bitsLen_any (x : Int) (w : World) (h0 : 0 ≤ x) (h1 : x ≤ 18446744073709551615) :
    Calls Try.prog 52 #[.int .u64 x] w fun e w' => e = .returned (.int .i64 (Lib.bitLen x.toNat)) ∧ w = w' := by
  have C := fun w => len64_any x w h0 h1
  generalize Lib.bitLen x.toNat = b at *
  go_enter Try.func52, Try.ntmps52
  go_wp2_with (go_at_call 57; ((with_reducible refine (C _).mono ?_); rintro e w' ⟨rfl, rfl⟩))
  go_ret
  exact ⟨rfl, rfl⟩

theorem minus_any (x y : Int) (w : World) (h0 : 0 ≤ y) (h1 : y ≤ x) (hx : isWide x = true) :
    Calls Try.prog 53 #[.agg #[.int .i64 (hi64 x), .int .u64 (lo64 x)], .agg #[.int .i64 (hi64 y), .int .u64 (lo64 y)]] w fun e w' => e = .returned (.agg #[.int .i64 (hi64 (x - y)), .int .u64 (lo64 (x - y))]) ∧ Grew w w' := by
  have hy : isWide y = true := by rw [isWide_iff] at *; omega
  have bx := lo_bounds x
  have byy := lo_bounds y
  have ex := w_eq x
  have ey := w_eq y
  have h2 := hi_bounds x hx
  have h3 := hi_bounds y hy
  have hn : 0 ≤ hi64 y := by unfold hi64; omega
  have hn2 : 0 ≤ hi64 x := by unfold hi64; omega
  obtain ⟨s, hs⟩ : ∃ s, s = (lo64 x - lo64 y) % 18446744073709551616 := ⟨_, rfl⟩
  obtain ⟨d, hd⟩ : ∃ d, d = if lo64 x < lo64 y then (1 : Int) else 0 := ⟨_, rfl⟩
  have A1 := sub64_named (lo64 x) (lo64 y) s d (by omega) (by omega) (by omega) hs hd
  have hd2 : 0 ≤ d ∧ d ≤ 1 := by rw [hd]; split <;> omega
  have U := w_unique (x - y) (hi64 x - hi64 y - d) s (by rw [hs, hd]; split <;> omega) (by omega) (by omega)
  have HU := Lib.hid U
  have hlow : -1 ≤ hi64 x - hi64 y - d := by omega
  clear U hs hd ex ey hx hy h0 h1
  generalize hi64 x = xh at *
  generalize lo64 x = xl at *
  generalize hi64 y = yh at *
  generalize lo64 y = yl at *
  obtain ⟨b1, b2⟩ := bx
  obtain ⟨b3, b4⟩ := byy
  obtain ⟨b5, b6⟩ := h2
  obtain ⟨b7, b8⟩ := h3
  obtain ⟨b9, b10⟩ := hd2
  go_enter Try.func53, Try.ntmps53
  go_wp2_with (rw [A1])
  exact bodyPost_ret (v := .agg #[.int .i64 (xh - yh - d), .int .u64 s]) (by simp [results, Try.results53, go_sem]) rfl ⟨ret_wv HU.out.1.symm HU.out.2.symm, grew_al (grew_al (grew_al (grew_refl _) _) _) _⟩
end Go.Proofs.Ytkkemmfghjgmeaa.NumK
