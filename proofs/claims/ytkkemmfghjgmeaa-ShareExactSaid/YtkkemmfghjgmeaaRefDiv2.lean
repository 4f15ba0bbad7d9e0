/- Contract of the reference's divide. -/
import Derived.Test.YtkkemmfghjgmeaaRefDiv
import Derived.Deep.DeepCutAuto
import Derived.Deep.CutBlock
namespace Go.Proofs.Ytkkemmfghjgmeaa.NumK
open Go.RowKit

def DV (a b : Int) (c : Nat) (q r : Int) : Prop := q * b + r = a ∧ 0 ≤ r ∧ r < b * 2 ^ c ∧ 0 ≤ q

theorem dv_low {a b : Int} {c : Nat} {q r : Int} (h : DV a b (c + 1) q r) (hr : r < b * 2 ^ c) : DV a b c q r := ⟨h.1, h.2.1, hr, h.2.2.2⟩
theorem dv_take {a b : Int} {c : Nat} {q r : Int} (h : DV a b (c + 1) q r) (hr : b * 2 ^ c ≤ r) : DV a b c (q + 2 ^ c) (r - b * 2 ^ c) := by
  obtain ⟨h1, h2, h3, h4⟩ := h
  rw [Int.pow_succ, ← Int.mul_assoc] at h3
  have h5 : (0 : Int) < 2 ^ c := Int.pow_pos (by omega)
  refine ⟨?_, by omega, by omega, by omega⟩
  rw [Int.add_mul, Int.mul_comm (2 ^ c) b]; omega
theorem dv_q {a b : Int} {c : Nat} {q r : Int} (h : DV a b c q r) (hb : 0 < b) : q ≤ a / b := (Int.le_ediv_iff_mul_le hb).2 (by have := h.1; have := h.2.1; omega)

set_option maxRecDepth 100000 in
set_option maxHeartbeats 4000000 in
theorem divide_any (a b : Int) (w : World) (ha : 0 ≤ a) (haw : isWide a = true) (hb : 0 < b) (hbw : isWide b = true) (hq : a / b ≤ 4611686018427387904) :
    Calls Try.prog 30 #[.agg #[.int .i64 (hi64 a), .int .u64 (lo64 a)], .agg #[.int .i64 (hi64 b), .int .u64 (lo64 b)]] w fun e w' => e = .returned (.tuple #[.int .i64 (a / b), .agg #[.int .i64 (hi64 (a % b)), .int .u64 (lo64 (a % b))]]) ∧ Grew w w' := by
  have hstart : DV a b 63 0 a := by
    refine ⟨by omega, ha, ?_, Int.le_refl _⟩
    have h1 := Int.lt_ediv_add_one_mul_self a hb
    have h63 : (2 : Int) ^ 63 = 9223372036854775808 := by decide
    have h2 : (a / b + 1) * b ≤ 9223372036854775808 * b := Int.mul_le_mul_of_nonneg_right (by omega) (by omega)
    rw [h63, Int.mul_comm b]; omega
  have HS0 := Lib.hid hstart
  have CSH := fun (k : Nat) (w : World) (hk : k ≤ 62) => shift_any b k w (by omega) hbw hk
  have CSHH := Lib.hid CSH
  have hab := (isWide_iff a).1 haw
  have hA2 := hab.2
  clear hstart CSH hab
  generalize hBh : hi64 b = bh at *
  generalize hBl : lo64 b = bl at *
  have HBH := Lib.hid hBh
  have HBL := Lib.hid hBl
  clear hBh hBl
  go_enter Try.func30, Try.ntmps30
  go_wp2
  have OB : Hid (∀ o4 : Obj, Own2 ((((w.alloc (.cells #[.int .i64 (hi64 a), .int .u64 (lo64 a)] 38)).alloc (.cells #[.int .i64 bh, .int .u64 bl] 38)).alloc (.cells #[.int .i64 0, .int .u64 0] 38)).alloc o4) (w.heap.size + 1) (.int .i64 bh) (.int .u64 bl)) := fun o4 => (Own2.new (w.alloc (.cells #[.int .i64 (hi64 a), .int .u64 (lo64 a)] 38)) _ _ _ _ (by simp)).keep (grew_al (grew_al (grew_refl _) _) _)
  have OR : Hid (∀ o4 : Obj, Own2 ((((w.alloc (.cells #[.int .i64 (hi64 a), .int .u64 (lo64 a)] 38)).alloc (.cells #[.int .i64 bh, .int .u64 bl] 38)).alloc (.cells #[.int .i64 0, .int .u64 0] 38)).alloc o4) (w.heap.size + 1 + 1) (.int .i64 0) (.int .u64 0)) := fun o4 => (Own2.new ((w.alloc (.cells #[.int .i64 (hi64 a), .int .u64 (lo64 a)] 38)).alloc (.cells #[.int .i64 bh, .int .u64 bl] 38)) _ _ _ _ (by simp)).keep (grew_al (grew_refl _) _)
  have OX : Hid (Own2 ((((w.alloc (.cells #[.int .i64 (hi64 a), .int .u64 (lo64 a)] 38)).alloc (.cells #[.int .i64 bh, .int .u64 bl] 38)).alloc (.cells #[.int .i64 0, .int .u64 0] 38)).alloc (.cells #[.int .i64 (hi64 a), .int .u64 (lo64 a)] 38)) (w.heap.size + 1 + 1 + 1) (.int .i64 (hi64 a)) (.int .u64 (lo64 a))) := Own2.new ((((w.alloc (.cells #[.int .i64 (hi64 a), .int .u64 (lo64 a)] 38)).alloc (.cells #[.int .i64 bh, .int .u64 bl] 38)).alloc (.cells #[.int .i64 0, .int .u64 0] 38))) _ _ _ _ (by simp)
  have HB := Lib.hid (OB.out (.cells #[.int .i64 (hi64 a), .int .u64 (lo64 a)] 38))
  have HR := Lib.hid (OR.out (.cells #[.int .i64 (hi64 a), .int .u64 (lo64 a)] 38))
  have HG : Hid (Grew w ((((w.alloc (.cells #[.int .i64 (hi64 a), .int .u64 (lo64 a)] 38)).alloc (.cells #[.int .i64 bh, .int .u64 bl] 38)).alloc (.cells #[.int .i64 0, .int .u64 0] 38)).alloc (.cells #[.int .i64 (hi64 a), .int .u64 (lo64 a)] 38))) := grew_al (grew_al (grew_al (grew_al (grew_refl _) _) _) _) _
  generalize (((w.alloc (.cells #[.int .i64 (hi64 a), .int .u64 (lo64 a)] 38)).alloc (.cells #[.int .i64 bh, .int .u64 bl] 38)).alloc (.cells #[.int .i64 0, .int .u64 0] 38)).alloc (.cells #[.int .i64 (hi64 a), .int .u64 (lo64 a)] 38) = w1 at HB HR OX HG ⊢
  clear OB OR
  go_loopw [6, 8] (fun vq vk wr => ∃ (c : Nat) (q r : Int), vq = .int .i64 q ∧ vk = .int .i64 ((c : Int) - 1) ∧ c ≤ 63 ∧ Hid (DV a b c q r) ∧ Hid (Own2 wr (w.heap.size + 1) (.int .i64 bh) (.int .u64 bl)) ∧ Hid (Own2 wr (w.heap.size + 1 + 1) (.int .i64 0) (.int .u64 0)) ∧ Hid (Own2 wr (w.heap.size + 1 + 1 + 1) (.int .i64 (hi64 r)) (.int .u64 (lo64 r))) ∧ Hid (Grew w wr)) (fun _ vk _ => (intOf vk + 1).toNat)
  case atStart => exact ⟨63, 0, a, rfl, rfl, by omega, HS0, HB, HR, OX, HG⟩
  case round =>
    clear HB HR OX HG HS0
    obtain ⟨c, q, r, rfl, rfl, hc, HD, HB, HR, HX, HG⟩ := hrel
    by_cases hlt : 0 < c
    · obtain ⟨c, rfl⟩ : ∃ c', c = c' + 1 := ⟨c - 1, by omega⟩
      have zc : ((c + 1 : Nat) : Int) - 1 = (c : Int) := by omega
      have b1 := HB.out.c0
      have b2 := HB.out.c1
      have CC := Lib.hid (CSHH.out c wr (by omega))
      have hr1 : r ≤ a := by
        obtain ⟨h1, _, _, h4⟩ := HD.out
        have := Int.mul_nonneg h4 (show 0 ≤ b by omega)
        omega
      have hr0 := HD.out.2.1
      have hrw : isWide r = true := wide_in r (by omega)
      rw [zc]
      by_cases hok : b * 2 ^ c < 170141183460469231731687303715884105728
      · have CC1 : Calls Try.prog 47 #[.agg #[.int .i64 bh, .int .u64 bl], .int .i64 c] wr fun e w' => e = .returned (.tuple #[.agg #[.int .i64 (hi64 (b * 2 ^ c)), .int .u64 (lo64 (b * 2 ^ c))], .bool true]) ∧ Grew wr w' :=
          CC.out.mono fun e w' ⟨hg, x, _, _, he, hx⟩ => ⟨by rw [he, hx hok, decide_eq_true hok], hg⟩
        have hx0 : 0 ≤ b * 2 ^ c := Int.mul_nonneg (by omega) (Int.le_of_lt (Int.pow_pos (by omega)))
        have DL := Lib.hid (fun h => dv_low HD.out h)
        have DT := Lib.hid (fun h => dv_take HD.out h)
        clear CC
        generalize hxx : b * 2 ^ c = x at *
        clear hxx
        have hxw : isWide x = true := wide_in x (by omega)
        have HL := fun w => refLess_any r x w
        have hxs : ∀ w2 : World, Own2 (w2.alloc (.cells #[.int .i64 (hi64 x), .int .u64 (lo64 x)] 38)) w2.heap.size (.int .i64 (hi64 x)) (.int .u64 (lo64 x)) := fun w2 => Own2.new w2 _ _ _ _ rfl
        have HXS := Lib.hid hxs
        clear hxs
        by_cases hless : r < x
        · have d1 : decide (r < x) = true := decide_eq_true hless
          rw [d1] at HL
          have HD2 := Lib.hid (DL.out hless)
          clear d1 DL DT
          generalize hi64 x = xh at *
          generalize lo64 x = xl at *
          go_wp2_with (first
            | (go_at_call 47; ((with_reducible refine CC1.mono ?_); rintro e w2 ⟨rfl, hg2⟩; have G3 := grew_trans hg2 (grew_al (grew_refl w2) (.cells #[.int .i64 xh, .int .u64 xl] 38)); have k3 := HX.out.keep G3; have k4 := HXS.out w2; have p1 := k3.c0; have p2 := k3.c1; have HG3 := Lib.hid G3; clear G3 hg2))
            | (go_at_call 22; ((with_reducible refine (HL _).mono ?_); rintro e w4 ⟨rfl, hg4⟩; have HG4 := Lib.hid (grew_trans HG3.out hg4); clear hg4)))
          go_roundw
          case rel => exact ⟨c, q, r, rfl, rfl, by omega, HD2, HB.out.keep HG4.out, HR.out.keep HG4.out, HX.out.keep HG4.out, grew_trans HG.out HG4.out⟩
          case measure => simp only [intOf]; omega
        · have d1 : decide (r < x) = false := decide_eq_false hless
          rw [d1] at HL
          have HD2 := Lib.hid (DT.out (by omega))
          have CN := fun w => neg_any x w hxw (wide_in _ (by omega))
          have CA := fun w => refAdd_any r (-x) w hrw (wide_in _ (by omega)) (wide_in _ (by omega))
          rw [show r + -x = r - x from by omega] at CA
          have hqb := dv_q HD2.out hb
          have hp : (0 : Int) < 2 ^ c := Int.pow_pos (by omega)
          have hq0 := HD.out.2.2.2
          clear d1 DL DT
          generalize hRH : hi64 (r - x) = rh at *
          generalize hRL : lo64 (r - x) = rl at *
          generalize hi64 (-x) = nh at *
          generalize lo64 (-x) = nl at *
          generalize hi64 x = xh at *
          generalize lo64 x = xl at *
          have HRH := Lib.hid hRH
          have HRL := Lib.hid hRL
          clear hRH hRL
          go_upto_region 8 with (first
            | (go_at_call 47; ((with_reducible refine CC1.mono ?_); rintro e w2 ⟨rfl, hg2⟩; have G3 := grew_trans hg2 (grew_al (grew_refl w2) (.cells #[.int .i64 xh, .int .u64 xl] 38)); have k3 := HX.out.keep G3; have k4 := HXS.out w2; have p1 := k3.c0; have p2 := k3.c1; have HG3 := Lib.hid G3; clear G3 hg2))
            | (go_at_call 22; ((with_reducible refine (HL _).mono ?_); rintro e w4 ⟨rfl, hg4⟩; have k5 := k4.keep hg4; have HG4 := Lib.hid (grew_trans HG3.out hg4); clear hg4)))
          have k6 := HX.out.keep HG4.out
          have HX4 := Lib.hid k6
          have HK5 := Lib.hid k5
          have a1 := k6.c0
          have a2 := k6.c1
          have a3 := k6.f0
          have a4 := k6.f1
          have a5 := k5.c0
          have a6 := k5.c1
          have HB4 := Lib.hid (HB.out.keep HG4.out)
          have HR4 := Lib.hid (HR.out.keep HG4.out)
          have HGW4 : Hid (Grew w w4) := grew_trans HG.out HG4.out
          clear p1 p2 k3 k4 k5 k6 HG3 HG4 b1 b2 CC1 HL
          go_region_with (first
            | (go_at_call 34; ((with_reducible refine (CN _).mono ?_); rintro e w5 ⟨rfl, hg5⟩; have g5 := grew_trans (grew_drew (grew_refl w4)) hg5; have j1 := (HX4.out.keep g5).c0; have j2 := (HX4.out.keep g5).c1; have j3 := (HK5.out.keep g5).c0; have j4 := (HK5.out.keep g5).c1; have G5 := Lib.hid g5; clear g5 hg5))
            | (go_at_call 48; ((with_reducible refine (CA _).mono ?_); rintro e w6 ⟨rfl, hg6⟩; have g6 := grew_trans G5.out hg6; have i1 := (HX4.out.keep g6).c0; have i2 := (HX4.out.keep g6).c1; have i3 := (HX4.out.keep g6).f0; have i4 := (HX4.out.keep g6).f1; have G6 := Lib.hid g6; clear g6 hg6)))
          all_goals
            have HS := Lib.hid ((HX4.out.keep G6.out).set (.int .i64 rh) (.int .u64 rl))
            have HBS := Lib.hid (((HB4.out.keep G6.out).other ⟨w.heap.size + 1 + 1 + 1, 0, none⟩ (.int .i64 rh) (by show w.heap.size + 1 + 1 + 1 ≠ _; omega)).other ⟨w.heap.size + 1 + 1 + 1, 1, none⟩ (.int .u64 rl) (by show w.heap.size + 1 + 1 + 1 ≠ _; omega))
            have HRS := Lib.hid (((HR4.out.keep G6.out).other ⟨w.heap.size + 1 + 1 + 1, 0, none⟩ (.int .i64 rh) (by show w.heap.size + 1 + 1 + 1 ≠ _; omega)).other ⟨w.heap.size + 1 + 1 + 1, 1, none⟩ (.int .u64 rl) (by show w.heap.size + 1 + 1 + 1 ≠ _; omega))
            have HGS : Hid (Grew w ((w6.setCell ⟨w.heap.size + 1 + 1 + 1, 0, none⟩ (.int .i64 rh)).setCell ⟨w.heap.size + 1 + 1 + 1, 1, none⟩ (.int .u64 rl))) := grew_set (grew_set (grew_trans HGW4.out G6.out) _ (by simp; omega)) _ (by simp; omega)
            clear a1 a2 a3 a4 a5 a6 j1 j2 j3 j4 i1 i2 i3 i4 CN CA
            generalize (w6.setCell ⟨w.heap.size + 1 + 1 + 1, 0, none⟩ (.int .i64 rh)).setCell ⟨w.heap.size + 1 + 1 + 1, 1, none⟩ (.int .u64 rl) = w7 at HS HBS HRS HGS ⊢
            go_wp2_with fail
            go_roundw
            case rel => exact ⟨c, q + 2 ^ c, r - x, rfl, rfl, by omega, HD2, HBS, HRS, by rw [HRH.out, HRL.out]; exact HS, HGS⟩
            case measure => simp only [intOf]; omega
      · have HD2 := Lib.hid (dv_low HD.out (show r < b * 2 ^ c by omega))
        have CC1 : Calls Try.prog 47 #[.agg #[.int .i64 bh, .int .u64 bl], .int .i64 c] wr fun e w' => ∃ xh xl : Int, e = .returned (.tuple #[.agg #[.int .i64 xh, .int .u64 xl], .bool false]) ∧ Grew wr w' :=
          CC.out.mono fun e w' ⟨hg, x, _, _, he, hx⟩ => ⟨hi64 x, lo64 x, by rw [he, decide_eq_false hok], hg⟩
        have CC2 := Lib.hid CC1
        clear CC CC1 hok
        go_wp2_with (go_at_call 47; ((with_reducible refine CC2.out.mono ?_); rintro e w2 ⟨xh, xl, rfl, hg2⟩; have HG3 := Lib.hid (grew_trans hg2 (grew_al (grew_refl w2) (.cells #[.int .i64 xh, .int .u64 xl] 38))); clear hg2))
        go_roundw
        case rel => exact ⟨c, q, r, rfl, rfl, by omega, HD2, HB.out.keep HG3.out, HR.out.keep HG3.out, HX.out.keep HG3.out, grew_trans HG.out HG3.out⟩
        case measure => simp only [intOf]; omega
    · obtain rfl : c = 0 := by omega
      have HF : Hid (a / b = q ∧ a % b = r) := by
        obtain ⟨h1, h2, h3, h4⟩ := HD.out
        rw [Int.pow_zero, Int.mul_one] at h3
        exact (Int.ediv_emod_unique hb).2 ⟨by rw [Int.mul_comm b q]; omega, h2, h3⟩
      have q1 := HX.out.c0
      have q2 := HX.out.c1
      have q3 := HR.out.c0
      have q4 := HR.out.c1
      have q5 := HR.out.f0
      have q6 := HR.out.f1
      generalize hA1 : hi64 r = a1 at *
      generalize hA2' : lo64 r = a2 at *
      have HA1 := Lib.hid hA1.symm
      have HA2 := Lib.hid hA2'.symm
      clear hA1 hA2'
      have HR2 : Hid (Own2 ((wr.setCell ⟨w.heap.size + 1 + 1, 0, none⟩ (.int .i64 a1)).setCell ⟨w.heap.size + 1 + 1, 1, none⟩ (.int .u64 a2)).drew (w.heap.size + 1 + 1) (.int .i64 a1) (.int .u64 a2)) := (HR.out.set _ _).keep (grew_drew (grew_refl _))
      have HG2 : Hid (Grew w ((wr.setCell ⟨w.heap.size + 1 + 1, 0, none⟩ (.int .i64 a1)).setCell ⟨w.heap.size + 1 + 1, 1, none⟩ (.int .u64 a2)).drew) := grew_drew (grew_set (grew_set HG.out _ (by simp; omega)) _ (by simp; omega))
      go_wp2_with fail
      go_big_region
      all_goals
        clear q1 q2 q3 q4 q5 q6
        go_wp2
        exact bodyPost_ret (v := .tuple #[.int .i64 q, .agg #[.int .i64 a1, .int .u64 a2]]) (by simp [results, Try.results30, go_sem, HR2.out.c0, HR2.out.c1]) rfl ⟨by rw [HF.out.1, HF.out.2, HA1.out, HA2.out], HG2.out⟩
end Go.Proofs.Ytkkemmfghjgmeaa.NumK
