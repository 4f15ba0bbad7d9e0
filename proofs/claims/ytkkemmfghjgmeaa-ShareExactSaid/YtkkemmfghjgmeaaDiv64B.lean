/- The contract of math/bits.Div64. -/
import Derived.Test.YtkkemmfghjgmeaaDiv64
import Derived.Test.YtkkemmfghjgmeaaDig2
import Derived.Deep.CutBlock
namespace Go.Proofs.Ytkkemmfghjgmeaa.NumK
open Go.RowKit

set_option maxHeartbeats 1000000 in
set_option maxRecDepth 100000 in
theorem div64_zero (lo y : Int) (w : World) (h1 : 0 < y) (h2 : y ≤ 18446744073709551615) (l0 : 0 ≤ lo) (l1 : lo ≤ 18446744073709551615) :
    Calls Try.prog 54 #[.int .u64 0, .int .u64 lo, .int .u64 y] w fun e w' => e = .returned (.tuple #[.int .u64 (lo / y), .int .u64 (lo % y)]) ∧ Grew w w' := by
  have e1 : lo.tdiv y = lo / y := Int.tdiv_eq_ediv_of_nonneg l0
  have e2 : lo.tmod y = lo % y := Int.tmod_eq_emod_of_nonneg l0
  have b1 : 0 ≤ lo / y := Int.ediv_nonneg l0 (by omega)
  have b2 : lo / y ≤ lo := Int.ediv_le_self y l0
  have b3 : 0 ≤ lo % y := Int.emod_nonneg lo (by omega)
  have b4 : lo % y < y := Int.emod_lt_of_pos lo h1
  have y0 : (y == 0) = false := by simp; omega
  have e3 : IntKind.u64.wrap (lo.tdiv y) = lo / y := by rw [e1, IntKind.wrap_u64]; omega
  go_enter Try.func54, Try.ntmps54
  go_wp2
  go_quiet (fail)
  go_wp2
  exact bodyPost_ret (v := .tuple #[.int .u64 (lo / y), .int .u64 (lo % y)]) (by simp [results, Try.results54, go_sem]) rfl ⟨rfl, grew_drewN (grew_refl _) _⟩

set_option maxHeartbeats 2000000 in
set_option maxRecDepth 100000 in
theorem div64_far (hi lo y s : Int) (w : World) (h0 : 0 < hi) (h1 : hi < y) (l0 : 0 ≤ lo) (l1 : lo ≤ 18446744073709551615) (s0 : 0 ≤ s) (s1 : s ≤ 63) (p0 : 2 ^ (63 - s).toNat ≤ y) (p1 : y < 2 ^ (64 - s).toNat)
   (C : ∀ w, Calls Try.prog 59 #[.int .u64 y] w fun e w' => e = .returned (.int .i64 s) ∧ w = w') :
    Calls Try.prog 54 #[.int .u64 hi, .int .u64 lo, .int .u64 y] w fun e w' => e = .returned (.tuple #[.int .u64 ((hi * 18446744073709551616 + lo) / y), .int .u64 ((hi * 18446744073709551616 + lo) % y)]) ∧ Grew w w' := by
  obtain ⟨Y, H, B, U, L, y1, y0, d1, d0, eY, eH, eB, eO, eL, eY1, eY0, eL1, eL0, f1, f2, f3, f4, f5, f6, f7, f8, f9, f10, f11, ⟨g1, g2⟩, ⟨g3, g4⟩, ⟨g5, g6⟩, f12, f13⟩ := scaled hi lo y s (by omega) h1 l0 l1 s0 s1 p0 p1
  clear p0 p1
  obtain ⟨q, m, q2, V, a1, a2, a3, k1, k2, k3, k4, k5, k6, k7, k8, k9, k10, k11, k12, k13, k14, k15, k16, k17, k18⟩ := digit Y y1 y0 U d1 f1 f2 f3 f4 f5 f6 f7 f10 f11
  obtain ⟨q', m', q3, R, b1, b2, b3, j1, j2, j3, j4, j5, j6, j7, j8, j9, j10, j11, j12, j13, j14, j15, j16, j17, j18⟩ := digit Y y1 y0 V d0 f1 f2 f3 f4 f5 f8 f9 k16 k17
  have fin := scaled_quo (hi * 18446744073709551616 + lo) y (2 ^ s.toNat) (q2 * 4294967296 + q3) R (Int.pow_pos (by omega)) (by
    rw [← f12, ← f13, Int.add_mul]
    have : q2 * 4294967296 * Y = q2 * Y * 4294967296 := by grind
    rw [this]
    generalize q2 * Y = X1 at *
    generalize q3 * Y = X2 at *
    omega) j16 (by rw [← f13]; exact j17) (by omega)
  have FIN := Lib.hid fin
  have huA : U < y1 * 4294967296 + y0 := by omega
  have huB : V < y1 * 4294967296 + y0 := by omega
  have gU : U < 18446744073709551616 := by omega
  have gV : V < 18446744073709551616 := by omega
  have gR : R < 18446744073709551616 := by omega
  have K3 := Lib.hid k3
  have J3 := Lib.hid j3
  clear f12 f13 fin k3 j3 k18 j18 f11 f1
  go_enter Try.func54, Try.ntmps54
  go_upto_block 0 with (first | (go_at_call 59; ((with_reducible refine (C _).mono ?_); rintro e w' ⟨rfl, rfl⟩)))
  go_cut [15] (fun s15 wx => s15 = .int .u64 q2 ∧ w = wx)
  case first =>
    go_wp2_with fail
    go_loop [15, 16] (fun a b => ∃ g r : Int, a = .int .u64 g ∧ b = .int .u64 r ∧ Hid (Dig y1 y0 U d1 g r) ∧ 0 ≤ r ∧ r < 4294967296 ∧ 0 ≤ g ∧ g ≤ 4294967297) (fun a _ => (intOf a).toNat)
    case atStart => exact ⟨q, U - m, rfl, rfl, K3, by omega, by omega, by omega, by omega⟩
    case round =>
      obtain ⟨g, r, rfl, rfl, DD, r0, r1, g0, g1⟩ := hrel
      obtain ⟨p, hp⟩ : ∃ p, p = g * y0 := ⟨_, rfl⟩
      have ln := fun h => dig_next y1 y0 U d1 g r p (by omega) (by omega) huA (by omega) (by omega) DD.out hp h
      have lp := dig_pos y1 y0 U d1 g r p (by omega) DD.out hp
      have lx := dig_exit y1 y0 U d1 g r p (by omega) huA DD.out hp
      rw [k9] at lx
      have lb := dig_break y1 y0 U d1 (g - 1) (r + y1) (by omega) f4 f5 (by omega) huA
      rw [k9] at lb
      by_cases c1 : 4294967296 ≤ g
      · have hg := lp (Or.inl c1)
        have DN := Lib.hid (ln (Or.inl c1))
        clear ln lp lx hp
        by_cases c3 : 4294967296 ≤ r + y1
        · have E := Lib.hid (lb DN.out (by omega) c3)
          clear lb
          go_wp2_with fail
          go_meet
          case rel => exact ⟨by rw [E.out.1], rfl⟩
        · clear lb
          go_wp2_with fail
          go_round
          case rel => exact ⟨g - 1, r + y1, rfl, rfl, DN, by omega, by omega, by omega, by omega⟩
          case measure => simp [intOf]; omega
      · have ep : IntKind.u64.wrap (g * y0) = p := by
          have e1 : g * y0 ≤ 4294967295 * 4294967295 := Int.mul_le_mul (by omega) (by omega) f4 (by omega)
          have e2 : 0 ≤ g * y0 := Int.mul_nonneg g0 f4
          rw [hp, IntKind.wrap_u64]; omega
        by_cases c2 : 4294967296 * r + d1 < p
        · have hg := lp (Or.inr c2)
          have DN := Lib.hid (ln (Or.inr c2))
          clear ln lp lx hp
          by_cases c3 : 4294967296 ≤ r + y1
          · have E := Lib.hid (lb DN.out (by omega) c3)
            clear lb
            go_wp2_with fail
            go_meet
            case rel => exact ⟨by rw [E.out.1], rfl⟩
          · clear lb
            go_wp2_with fail
            go_round
            case rel => exact ⟨g - 1, r + y1, rfl, rfl, DN, by omega, by omega, by omega, by omega⟩
            case measure => simp [intOf]; omega
        · have E := Lib.hid (lx (by omega))
          clear ln lp lx hp lb
          go_wp2_with fail
          go_meet
          case rel => exact ⟨by rw [E.out.1], rfl⟩
  case rest =>
    obtain ⟨rfl, rfl⟩ := hcut
    go_upto_block 2 with fail
    go_cut [18] (fun s18 wx => s18 = .int .u64 q3 ∧ w = wx)
    case first =>
      go_wp2_with fail
      go_loop [18, 16] (fun a b => ∃ g r : Int, a = .int .u64 g ∧ b = .int .u64 r ∧ Hid (Dig y1 y0 V d0 g r) ∧ 0 ≤ r ∧ r < 4294967296 ∧ 0 ≤ g ∧ g ≤ 4294967297) (fun a _ => (intOf a).toNat)
      case atStart => exact ⟨q', V - m', rfl, rfl, J3, by omega, by omega, by omega, by omega⟩
      case round =>
        obtain ⟨g, r, rfl, rfl, DD, r0, r1, g0, g1⟩ := hrel
        obtain ⟨p, hp⟩ : ∃ p, p = g * y0 := ⟨_, rfl⟩
        have ln := fun h => dig_next y1 y0 V d0 g r p (by omega) (by omega) huB (by omega) (by omega) DD.out hp h
        have lp := dig_pos y1 y0 V d0 g r p (by omega) DD.out hp
        have lx := dig_exit y1 y0 V d0 g r p (by omega) huB DD.out hp
        rw [j9] at lx
        have lb := dig_break y1 y0 V d0 (g - 1) (r + y1) (by omega) f4 f5 (by omega) huB
        rw [j9] at lb
        by_cases c1 : 4294967296 ≤ g
        · have hg := lp (Or.inl c1)
          have DN := Lib.hid (ln (Or.inl c1))
          clear ln lp lx hp
          by_cases c3 : 4294967296 ≤ r + y1
          · have E := Lib.hid (lb DN.out (by omega) c3)
            clear lb
            go_wp2_with fail
            go_meet
            case rel => exact ⟨by rw [E.out.1], rfl⟩
          · clear lb
            go_wp2_with fail
            go_round
            case rel => exact ⟨g - 1, r + y1, rfl, rfl, DN, by omega, by omega, by omega, by omega⟩
            case measure => simp [intOf]; omega
        · have ep : IntKind.u64.wrap (g * y0) = p := by
            have e1 : g * y0 ≤ 4294967295 * 4294967295 := Int.mul_le_mul (by omega) (by omega) f4 (by omega)
            have e2 : 0 ≤ g * y0 := Int.mul_nonneg g0 f4
            rw [hp, IntKind.wrap_u64]; omega
          by_cases c2 : 4294967296 * r + d0 < p
          · have hg := lp (Or.inr c2)
            have DN := Lib.hid (ln (Or.inr c2))
            clear ln lp lx hp
            by_cases c3 : 4294967296 ≤ r + y1
            · have E := Lib.hid (lb DN.out (by omega) c3)
              clear lb
              go_wp2_with fail
              go_meet
              case rel => exact ⟨by rw [E.out.1], rfl⟩
            · clear lb
              go_wp2_with fail
              go_round
              case rel => exact ⟨g - 1, r + y1, rfl, rfl, DN, by omega, by omega, by omega, by omega⟩
              case measure => simp [intOf]; omega
          · have E := Lib.hid (lx (by omega))
            clear ln lp lx hp lb
            go_wp2_with fail
            go_meet
            case rel => exact ⟨by rw [E.out.1], rfl⟩
    case rest =>
      obtain ⟨rfl, rfl⟩ := hcut
      go_wp2_with fail
      exact bodyPost_ret (v := .tuple #[.int .u64 (q2 * 4294967296 + q3), .int .u64 (R / 2 ^ s.toNat)]) (by simp [results, Try.results54, go_sem]) rfl ⟨by rw [FIN.out.1, FIN.out.2], grew_refl _⟩

theorem bitLen_both (x : Nat) (h0 : 0 < x) (h1 : x < 18446744073709551616) : 1 ≤ Lib.bitLen x ∧ Lib.bitLen x ≤ 64 ∧ 2 ^ (Lib.bitLen x - 1) ≤ x ∧ x < 2 ^ Lib.bitLen x := by
  have a := Lib.bitLen_le x 64 (by omega) h1
  have b := Lib.bitLen_half x (by omega) h1
  refine ⟨by omega, a, ?_, ?_⟩
  · rcases Nat.lt_or_ge x (2 ^ (Lib.bitLen x - 1)) with c | c
    · have := Lib.bitLen_le x (Lib.bitLen x - 1) (by omega) c
      omega
    · exact c
  · rcases Nat.lt_or_ge x (2 ^ Lib.bitLen x) with c | c
    · exact c
    · have e := Lib.bitLen_shift (Lib.bitLen x) x c h1
      have p : 0 < x / 2 ^ Lib.bitLen x := Nat.div_pos c (Nat.two_pow_pos _)
      have q : x / 2 ^ Lib.bitLen x < 2 ^ 64 := Nat.lt_of_le_of_lt (Nat.div_le_self _ _) h1
      have := Lib.bitLen_half (x / 2 ^ Lib.bitLen x) (by omega) q
      omega

theorem div64_any (hi lo y : Int) (w : World) (h0 : 0 ≤ hi) (h1 : hi < y) (h2 : y ≤ 18446744073709551615) (l0 : 0 ≤ lo) (l1 : lo ≤ 18446744073709551615) :
    Calls Try.prog 54 #[.int .u64 hi, .int .u64 lo, .int .u64 y] w fun e w' => e = .returned (.tuple #[.int .u64 ((hi * 18446744073709551616 + lo) / y), .int .u64 ((hi * 18446744073709551616 + lo) % y)]) ∧ Grew w w' := by
  by_cases c : hi = 0
  · subst c
    have e : (0 * 18446744073709551616 + lo : Int) = lo := by omega
    rw [e]
    exact div64_zero lo y w h1 h2 l0 l1
  · obtain ⟨a1, a2, a3, a4⟩ := bitLen_both y.toNat (by omega) (by omega)
    have C := fun w => lz64_any y w (by omega) h2
    have e1 : (63 - (64 - (Lib.bitLen y.toNat : Int))).toNat = Lib.bitLen y.toNat - 1 := by omega
    have e2 : (64 - (64 - (Lib.bitLen y.toNat : Int))).toNat = Lib.bitLen y.toNat := by omega
    exact div64_far hi lo y (64 - (Lib.bitLen y.toNat : Int)) w (by omega) h1 l0 l1 (by omega) (by omega) (by rw [e1, pow_nat]; omega) (by rw [e2, pow_nat]; omega) C
end Go.Proofs.Ytkkemmfghjgmeaa.NumK
