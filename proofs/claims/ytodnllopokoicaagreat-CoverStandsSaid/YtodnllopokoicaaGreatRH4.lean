/- The reference's Right and Of (cut out of Ref01). -/
import Derived.Test.YtodnllopokoicaaGreatRH1
import Derived.Test.YtodnllopokoicaaGreatRH2
import Derived.Deep.DeepCutAuto
import Derived.Deep.Light
import Derived.Test.YtodnllopokoicaaGreatRH3
import Derived.Lib.BitFns
import Derived.Deep.QuietTactic
import Derived.BigQuiet
namespace Go.Proofs.YtodnllopokoicaaGreat.NumK
open Go.RowKit

theorem refRight_any (n : Int) (w : World) :
    Calls Tryz.prog 74 #[.int .i64 n] w fun e w' => e = .returned (.bool (isMoney n)) ∧ w = w' := by
  by_cases h1 : -4611686018427387904 ≤ n
  · by_cases h2 : n ≤ 4611686018427387904
    · have H := Lib.hid ((isMoney_iff n).2 ⟨h1, h2⟩)
      go_enter Tryz.func74, Tryz.ntmps74
      go_wp2
      go_ret
      exact ⟨ret_b H.out.symm, rfl⟩
    · have hf : isMoney n = false := by rw [← Bool.not_eq_true, isMoney_iff]; omega
      have H := Lib.hid hf
      clear hf
      go_enter Tryz.func74, Tryz.ntmps74
      go_wp2
      go_ret
      exact ⟨ret_b H.out.symm, rfl⟩
  · have hf : isMoney n = false := by rw [← Bool.not_eq_true, isMoney_iff]; omega
    have H := Lib.hid hf
    clear hf
    go_enter Tryz.func74, Tryz.ntmps74
    go_wp2
    go_ret
    exact ⟨ret_b H.out.symm, rfl⟩

theorem of_any (n : Int) (w : World) (h : -9223372036854775808 ≤ n ∧ n ≤ 9223372036854775807) :
    Calls Tryz.prog 48 #[.int .i64 n] w fun e w' => e = .returned (.agg #[.int .i64 (hi64 (n)), .int .u64 (lo64 (n))]) ∧ Grew w w' := by
  by_cases c : n < 0
  · have H1 : Hid ((-1 : Int) = hi64 n) := by show (-1 : Int) = _; unfold hi64; omega
    have H2 : Hid (IntKind.u64.wrap n = lo64 n) := by show _ = _; rw [IntKind.wrap_u64]; rfl
    go_enter Tryz.func48, Tryz.ntmps48
    go_wp2
    exact bodyPost_ret (v := .agg #[.int .i64 (-1), .int .u64 (IntKind.u64.wrap n)]) (by simp [results, Tryz.results48, go_sem]) rfl ⟨ret_wv H1.out H2.out, grew_alloc _ _ _⟩
  · have H1 : Hid ((0 : Int) = hi64 n) := by show (0 : Int) = _; unfold hi64; omega
    have H2 : Hid (n = lo64 n) := by show _ = _; unfold lo64; omega
    go_enter Tryz.func48, Tryz.ntmps48
    go_wp2
    exact bodyPost_ret (v := .agg #[.int .i64 0, .int .u64 n]) (by simp [results, Tryz.results48, go_sem]) rfl ⟨ret_wv H1.out H2.out, grew_alloc _ _ _⟩
end Go.Proofs.YtodnllopokoicaaGreat.NumK
namespace Go.Proofs.YtodnllopokoicaaGreat.NumK
open Go.RowKit

theorem mag_any (n : Int) (w : World) (h : -9223372036854775808 ≤ n ∧ n ≤ 9223372036854775807) :
    Calls Tryz.prog 110 #[.int .i64 n] w fun e w' => e = .returned (.int .u64 (n.natAbs : Int)) ∧ w = w' := by
  by_cases c : n < 0
  · have e : IntKind.u64.wrap (-IntKind.u64.wrap n) = (n.natAbs : Int) := by rw [IntKind.wrap_u64, IntKind.wrap_u64]; omega
    have E := Lib.hid e
    clear e
    go_enter Tryz.func110, Tryz.ntmps110
    go_wp2
    go_ret
    exact ⟨ret_i E.out, rfl⟩
  · have e : (n.natAbs : Int) = n := by omega
    have E := Lib.hid e
    clear e
    go_enter Tryz.func110, Tryz.ntmps110
    go_wp2
    go_ret
    exact ⟨ret_i E.out.symm, rfl⟩

set_option maxRecDepth 100000 in
/-- turned round; not of the least one. -/
theorem neg_any (x : Int) (w : World) (h : isWide x = true) (h2 : isWide (-x) = true) :
    Calls Tryz.prog 111 #[(.agg #[.int .i64 (hi64 (x)), .int .u64 (lo64 (x))])] w fun e w' => e = .returned (.agg #[.int .i64 (hi64 (-x)), .int .u64 (lo64 (-x))]) ∧ Grew w w' := by
  have b1 := lo_bounds x
  have b2 := hi_bounds x h
  have b3 := hi_bounds (-x) h2
  have ex := w_eq x
  obtain ⟨s1, hs1⟩ : ∃ s, s = (18446744073709551615 - lo64 x + 1 + 0) % 18446744073709551616 := ⟨_, rfl⟩
  obtain ⟨d1, hd1⟩ : ∃ s, s = (18446744073709551615 - lo64 x + 1 + 0) / 18446744073709551616 := ⟨_, rfl⟩
  have A1 := add64_named (18446744073709551615 - lo64 x) 1 0 s1 d1 (by omega) (by omega) (by omega) (by omega) hs1 hd1
  have ew : 0 ≤ IntKind.u64.wrap (hi64 x) ∧ IntKind.u64.wrap (hi64 x) < 18446744073709551616 ∧ (IntKind.u64.wrap (hi64 x) = hi64 x ∨ IntKind.u64.wrap (hi64 x) = hi64 x + 18446744073709551616) := by rw [IntKind.wrap_u64]; omega
  obtain ⟨s2, hs2⟩ : ∃ s, s = (18446744073709551615 - IntKind.u64.wrap (hi64 x) + 0 + d1) % 18446744073709551616 := ⟨_, rfl⟩
  obtain ⟨d2, hd2⟩ : ∃ s, s = (18446744073709551615 - IntKind.u64.wrap (hi64 x) + 0 + d1) / 18446744073709551616 := ⟨_, rfl⟩
  have A2 := add64_named (18446744073709551615 - IntKind.u64.wrap (hi64 x)) 0 d1 s2 d2 (by omega) (by omega) (by omega) (by omega) hs2 hd2
  have b4 := (isWide_iff (-x)).1 h2
  have E := w_unique (-x) (IntKind.i64.wrap s2) s1 (by rw [IntKind.wrap_i64]; omega) (by omega) (by omega)
  have E1 := Lib.hid E.1.symm
  have E2 := Lib.hid E.2.symm
  have N1 := not_u64 (lo64 x) (by omega) (by omega)
  have N2 := not_u64 (IntKind.u64.wrap (hi64 x)) (by omega) (by omega)
  generalize eh : IntKind.u64.wrap (hi64 x) = hw at *
  clear hs1 hd1 hs2 hd2 ew E b3 ex b2 b1 b4
  generalize lo64 x = l at *
  generalize hi64 x = hh at *
  clear h h2
  go_enter Tryz.func111, Tryz.ntmps111
  go_wp2_with (first | simp only [A1] | simp only [A2])
  exact bodyPost_ret (v := .agg #[.int .i64 (wrap64 s2), .int .u64 s1]) (by simp [results, Tryz.results111, go_sem]) rfl ⟨ret_wv ((IntWalk.i64_left s2).symm.trans E1.out) E2.out, grew_trans (grew_alloc _ _ _) (grew_alloc _ _ _)⟩




set_option maxHeartbeats 1000000 in
theorem refTimes_any (a b : Int) (w : World) (ha : -9223372036854775808 ≤ a ∧ a ≤ 9223372036854775807) (hb : -9223372036854775808 ≤ b ∧ b ≤ 9223372036854775807) :
    Calls Tryz.prog 50 #[.int .i64 a, .int .i64 b] w fun e w' => e = .returned (.agg #[.int .i64 (hi64 (a * b)), .int .u64 (lo64 (a * b))]) ∧ Grew w w' := by
  have m1 := fun w => mag_any a w ha
  have m2 := fun w => mag_any b w hb
  have M := mul64_any a.natAbs b.natAbs (by omega) (by omega)
  obtain ⟨t1, t2, t3⟩ := times_arith a b ha hb
  generalize hP : a.natAbs * b.natAbs = P at *
  have e1 : ((P / 18446744073709551616 : Nat) : Int) = hi64 (P : Int) := by unfold hi64; omega
  have e2 : ((P % 18446744073709551616 : Nat) : Int) = lo64 (P : Int) := by unfold lo64; omega
  rw [e1, e2] at M
  have N := fun w => neg_any (P : Int) w ((isWide_iff _).2 (by omega)) ((isWide_iff _).2 (by omega))
  have g1 : 0 ≤ hi64 (P : Int) ∧ hi64 (P : Int) ≤ 4611686018427387904 := by unfold hi64; omega
  obtain ⟨g1, g2⟩ := g1
  have T2 := Lib.hid t2
  have T3 := Lib.hid t3
  clear t1 t2 t3 e1 e2 hP
  by_cases s1 : a < 0 <;> by_cases s2 : b < 0
  · have d1 : decide (a < 0) = true := by simpa using s1
    have d2 : decide (b < 0) = true := by simpa using s2
    go_enter Tryz.func50, Tryz.ntmps50
    go_wp2_with (first
      | (go_at_call 110; ((with_reducible refine (m1 _).mono ?_); rintro e w' ⟨rfl, rfl⟩))
      | (go_at_call 110; ((with_reducible refine (m2 _).mono ?_); rintro e w' ⟨rfl, rfl⟩))
      | (go_at_call 109; ((with_reducible refine (M _).mono ?_); rintro e w' ⟨rfl, rfl⟩))
      | (go_at_call 111; ((with_reducible refine (N _).mono ?_); rintro e w1 ⟨rfl, hg1⟩)))
    exact bodyPost_ret (v := (.agg #[.int .i64 (hi64 ((P : Int))), .int .u64 (lo64 ((P : Int)))])) (by simp [results, Tryz.results50, go_sem]) rfl ⟨ret_wv (by rw [T2.out (by omega)]) (by rw [T2.out (by omega)]), grew_trans (grew_alloc _ _ _) (grew_alloc _ _ _)⟩
  · have d1 : decide (a < 0) = true := by simpa using s1
    have d2 : decide (b < 0) = false := by simpa using s2
    go_enter Tryz.func50, Tryz.ntmps50
    go_wp2_with (first
      | (go_at_call 110; ((with_reducible refine (m1 _).mono ?_); rintro e w' ⟨rfl, rfl⟩))
      | (go_at_call 110; ((with_reducible refine (m2 _).mono ?_); rintro e w' ⟨rfl, rfl⟩))
      | (go_at_call 109; ((with_reducible refine (M _).mono ?_); rintro e w' ⟨rfl, rfl⟩))
      | (go_at_call 111; ((with_reducible refine (N _).mono ?_); rintro e w1 ⟨rfl, hg1⟩; have k0 := own_cells hg1; obtain ⟨k1, k2, k3, k4, k5⟩ := k0)))
    have hz := own_grew hg1
    exact bodyPost_ret (v := (.agg #[.int .i64 (hi64 (-(P : Int))), .int .u64 (lo64 (-(P : Int)))])) (by simp [results, Tryz.results50, go_sem, k1, k2]) rfl ⟨ret_wv (by rw [T3.out (by omega)]) (by rw [T3.out (by omega)]), grew_set (grew_set hz _ (Nat.le_refl _)) _ (Nat.le_refl _)⟩
  · have d1 : decide (a < 0) = false := by simpa using s1
    have d2 : decide (b < 0) = true := by simpa using s2
    go_enter Tryz.func50, Tryz.ntmps50
    go_wp2_with (first
      | (go_at_call 110; ((with_reducible refine (m1 _).mono ?_); rintro e w' ⟨rfl, rfl⟩))
      | (go_at_call 110; ((with_reducible refine (m2 _).mono ?_); rintro e w' ⟨rfl, rfl⟩))
      | (go_at_call 109; ((with_reducible refine (M _).mono ?_); rintro e w' ⟨rfl, rfl⟩))
      | (go_at_call 111; ((with_reducible refine (N _).mono ?_); rintro e w1 ⟨rfl, hg1⟩; have k0 := own_cells hg1; obtain ⟨k1, k2, k3, k4, k5⟩ := k0)))
    have hz := own_grew hg1
    exact bodyPost_ret (v := (.agg #[.int .i64 (hi64 (-(P : Int))), .int .u64 (lo64 (-(P : Int)))])) (by simp [results, Tryz.results50, go_sem, k1, k2]) rfl ⟨ret_wv (by rw [T3.out (by omega)]) (by rw [T3.out (by omega)]), grew_set (grew_set hz _ (Nat.le_refl _)) _ (Nat.le_refl _)⟩
  · have d1 : decide (a < 0) = false := by simpa using s1
    have d2 : decide (b < 0) = false := by simpa using s2
    go_enter Tryz.func50, Tryz.ntmps50
    go_wp2_with (first
      | (go_at_call 110; ((with_reducible refine (m1 _).mono ?_); rintro e w' ⟨rfl, rfl⟩))
      | (go_at_call 110; ((with_reducible refine (m2 _).mono ?_); rintro e w' ⟨rfl, rfl⟩))
      | (go_at_call 109; ((with_reducible refine (M _).mono ?_); rintro e w' ⟨rfl, rfl⟩))
      | (go_at_call 111; ((with_reducible refine (N _).mono ?_); rintro e w1 ⟨rfl, hg1⟩)))
    exact bodyPost_ret (v := (.agg #[.int .i64 (hi64 ((P : Int))), .int .u64 (lo64 ((P : Int)))])) (by simp [results, Tryz.results50, go_sem]) rfl ⟨ret_wv (by rw [T2.out (by omega)]) (by rw [T2.out (by omega)]), grew_trans (grew_alloc _ _ _) (grew_alloc _ _ _)⟩
end Go.Proofs.YtodnllopokoicaaGreat.NumK
namespace Go.Proofs.YtodnllopokoicaaGreat.NumK
open Go.RowKit

theorem tab8 (i : Int) (h0 : 0 ≤ i) (h1 : i < 256) (h : i.toNat < Lib.len8tab.size) : ((Lib.len8tab[i.toNat].toNat : Nat) : Int) = (Lib.bitLen i.toNat : Int) ∧ Lib.bitLen i.toNat ≤ 8 := by
  refine ⟨?_, Lib.bitLen_le8' i h0 (by omega)⟩
  rw [← Lib.len8_of i h0 (by omega)]
  unfold Lib.len8
  rw [getElem?_pos Lib.len8tab i.toNat h]
  rfl

theorem fin8 (k L B : Nat) (z : Int) (hz : z = k) (hk : k ≤ 56) (l : L ≤ 8) (s : B = k + L) : wrap64 (z + wrap64 (L : Int)) = (B : Int) := by
  subst hz s
  unfold wrap64
  omega
theorem fin0 (L : Nat) (l : L ≤ 8) : wrap64 (wrap64 (L : Int)) = (L : Int) := by
  unfold wrap64
  omega

set_option maxHeartbeats 4000000 in
set_option maxRecDepth 100000 in
theorem len64_any (x : Int) (w : World) (h0 : 0 ≤ x) (h1 : x ≤ 18446744073709551615) :
    Calls Tryz.prog 147 #[.int .u64 x] w fun e w' => e = .returned (.int .i64 (Lib.bitLen x.toNat)) ∧ w = w' := by
  have hs : ((Lib.len8tab.size : Nat) : Int) = 256 := by rw [Lib.len8tab_size]; rfl
  go_enter Tryz.func147, Tryz.ntmps147
  go_wp2
  all_goals (go_ret; refine ⟨congrArg Ending.returned (congrArg (Value.int IntKind.i64) ?_), rfl⟩)
  all_goals first
    | (obtain ⟨e, l⟩ := tab8 (x / 4294967296 / 65536 / 256) (by omega) (by omega) (by rw [Lib.len8tab_size]; omega)
       simp only [e]
       have e2 : (x / 4294967296 / 65536 / 256).toNat = x.toNat / 72057594037927936 := by omega
       rw [e2] at l ⊢
       exact fin8 56 _ _ _ rfl (by omega) l (Lib.bitLen_shift56 x.toNat (by omega) (by omega)))
    | (obtain ⟨e, l⟩ := tab8 (x / 4294967296 / 65536) (by omega) (by omega) (by rw [Lib.len8tab_size]; omega)
       simp only [e]
       have e2 : (x / 4294967296 / 65536).toNat = x.toNat / 281474976710656 := by omega
       rw [e2] at l ⊢
       exact fin8 48 _ _ _ rfl (by omega) l (Lib.bitLen_shift48 x.toNat (by omega) (by omega)))
    | (obtain ⟨e, l⟩ := tab8 (x / 4294967296 / 256) (by omega) (by omega) (by rw [Lib.len8tab_size]; omega)
       simp only [e]
       have e2 : (x / 4294967296 / 256).toNat = x.toNat / 1099511627776 := by omega
       rw [e2] at l ⊢
       exact fin8 40 _ _ _ rfl (by omega) l (Lib.bitLen_shift40 x.toNat (by omega) (by omega)))
    | (obtain ⟨e, l⟩ := tab8 (x / 4294967296) (by omega) (by omega) (by rw [Lib.len8tab_size]; omega)
       simp only [e]
       have e2 : (x / 4294967296).toNat = x.toNat / 4294967296 := by omega
       rw [e2] at l ⊢
       exact fin8 32 _ _ _ rfl (by omega) l (Lib.bitLen_shift32 x.toNat (by omega) (by omega)))
    | (obtain ⟨e, l⟩ := tab8 (x / 65536 / 256) (by omega) (by omega) (by rw [Lib.len8tab_size]; omega)
       simp only [e]
       have e2 : (x / 65536 / 256).toNat = x.toNat / 16777216 := by omega
       rw [e2] at l ⊢
       exact fin8 24 _ _ _ rfl (by omega) l (Lib.bitLen_shift24 x.toNat (by omega) (by omega)))
    | (obtain ⟨e, l⟩ := tab8 (x / 65536) (by omega) (by omega) (by rw [Lib.len8tab_size]; omega)
       simp only [e]
       have e2 : (x / 65536).toNat = x.toNat / 65536 := by omega
       rw [e2] at l ⊢
       exact fin8 16 _ _ _ rfl (by omega) l (Lib.bitLen_shift16 x.toNat (by omega) (by omega)))
    | (obtain ⟨e, l⟩ := tab8 (x / 256) (by omega) (by omega) (by rw [Lib.len8tab_size]; omega)
       simp only [e]
       have e2 : (x / 256).toNat = x.toNat / 256 := by omega
       rw [e2] at l ⊢
       exact fin8 8 _ _ _ rfl (by omega) l (Lib.bitLen_shift8 x.toNat (by omega) (by omega)))
    | (obtain ⟨e, l⟩ := tab8 x (by omega) (by omega) (by rw [Lib.len8tab_size]; omega)
       simp only [e]
       exact fin0 _ l)

theorem lz64_any (x : Int) (w : World) (h0 : 0 ≤ x) (h1 : x ≤ 18446744073709551615) :
    Calls Tryz.prog 142 #[.int .u64 x] w fun e w' => e = .returned (.int .i64 (64 - (Lib.bitLen x.toNat : Int))) ∧ w = w' := by
  have C := fun w => len64_any x w h0 h1
  have l := Lib.bitLen_le x.toNat 64 (by omega) (by omega)
  generalize Lib.bitLen x.toNat = L at *
  go_enter Tryz.func142, Tryz.ntmps142
  go_wp2_with (go_at_call 147; ((with_reducible refine (C _).mono ?_); rintro e w' ⟨rfl, rfl⟩))
  go_ret
  exact ⟨rfl, rfl⟩
end Go.Proofs.YtodnllopokoicaaGreat.NumK
namespace Go.Proofs.YtodnllopokoicaaGreat.NumK
open Go.RowKit

/-- y1 and y0 are the halves of what divides, u the rest so far, d the next digit, q and r the guess: q is not below the digit that is looked for. -/
def Dig (y1 y0 u d q r : Int) : Prop := q * y1 + r = u ∧ u * 4294967296 + d < (q + 1) * (y1 * 4294967296 + y0) ∧ 0 ≤ r ∧ 0 ≤ q ∧ q ≤ 4294967297

theorem dig_start (y1 y0 u d q : Int) (h1 : 2147483648 ≤ y1) (h3 : 0 ≤ y0) (h4 : y0 < 4294967296) (h5 : 0 ≤ u) (h6 : u < y1 * 4294967296 + y0) (h8 : d < 4294967296) (hq : q = u / y1) :
    Dig y1 y0 u d q (u - q * y1) ∧ u - q * y1 < y1 := by
  have e1 := Int.mul_ediv_add_emod u y1
  have e2 := Int.emod_nonneg u (show y1 ≠ 0 by omega)
  have e3 := Int.emod_lt_of_pos u (show 0 < y1 by omega)
  have e4 : 0 ≤ q := by rw [hq]; exact Int.ediv_nonneg h5 (by omega)
  rw [← hq, Int.mul_comm] at e1
  have e5 : q ≤ 4294967297 := by
    rcases Int.lt_or_le 4294967297 q with h | h
    · have : 4294967298 * y1 ≤ q * y1 := Int.mul_le_mul_of_nonneg_right h (by omega)
      omega
    · exact h
  have e6 : (q + 1) * (y1 * 4294967296 + y0) = q * y1 * 4294967296 + y1 * 4294967296 + (q + 1) * y0 := by grind
  have e7 : 0 ≤ (q + 1) * y0 := Int.mul_nonneg (by omega) h3
  refine ⟨⟨by omega, ?_, by omega, e4, e5⟩, by omega⟩
  rw [e6]
  generalize (q + 1) * y0 = A at *
  generalize q * y1 = B at *
  omega

theorem dig_pos (y1 y0 u d q r p : Int) (h3 : 0 ≤ d) (D : Dig y1 y0 u d q r) (hp : p = q * y0) (h : 4294967296 ≤ q ∨ 4294967296 * r + d < p) : 1 ≤ q := by
  obtain ⟨_, _, d3, d4, _⟩ := D
  rcases h with h | h
  · omega
  · rcases Int.lt_or_le q 1 with c | c
    · have : q = 0 := by omega
      subst this
      omega
    · exact c

theorem dig_next (y1 y0 u d q r p : Int) (h1 : 0 ≤ y1) (h0 : 0 ≤ u) (h5 : u < y1 * 4294967296 + y0) (h8 : d < 4294967296) (h6 : 0 ≤ d) (D : Dig y1 y0 u d q r) (hp : p = q * y0) (h : 4294967296 ≤ q ∨ 4294967296 * r + d < p) : Dig y1 y0 u d (q - 1) (r + y1) := by
  have hq := dig_pos y1 y0 u d q r p h6 D hp h
  obtain ⟨d1, d2, d3, d4, d5⟩ := D
  refine ⟨by rw [Int.sub_mul]; omega, ?_, by omega, by omega, by omega⟩
  have e : q - 1 + 1 = q := by omega
  rw [e]
  rcases h with h | h
  · have h9 : 4294967296 * (y1 * 4294967296 + y0) ≤ q * (y1 * 4294967296 + y0) := Int.mul_le_mul_of_nonneg_right h (by omega)
    omega
  · have e6 : q * (y1 * 4294967296 + y0) = q * y1 * 4294967296 + p := by rw [hp]; grind
    rw [e6]
    generalize q * y1 = B at *
    omega

theorem dig_quit (y1 y0 u d q r : Int) (h0 : 0 ≤ u) (h5 : u < y1 * 4294967296 + y0) (D : Dig y1 y0 u d q r) (h : q * (y1 * 4294967296 + y0) ≤ u * 4294967296 + d) :
    q = (u * 4294967296 + d) / (y1 * 4294967296 + y0) ∧ u * 4294967296 + d - q * (y1 * 4294967296 + y0) = (u * 4294967296 + d) % (y1 * 4294967296 + y0) := by
  obtain ⟨_, d2, _⟩ := D
  generalize y1 * 4294967296 + y0 = Y at *
  generalize u * 4294967296 + d = N at *
  rw [Int.add_mul] at d2
  have := (Int.ediv_emod_unique (a := N) (b := Y) (r := N - q * Y) (q := q) (by omega)).2 ⟨by rw [Int.mul_comm]; omega, by omega, by omega⟩
  exact ⟨this.1.symm, this.2.symm⟩

theorem dig_exit (y1 y0 u d q r p : Int) (h0 : 0 ≤ u) (h5 : u < y1 * 4294967296 + y0) (D : Dig y1 y0 u d q r) (hp : p = q * y0) (h : p ≤ 4294967296 * r + d) :
    q = (u * 4294967296 + d) / (y1 * 4294967296 + y0) ∧ u * 4294967296 + d - q * (y1 * 4294967296 + y0) = (u * 4294967296 + d) % (y1 * 4294967296 + y0) := by
  refine dig_quit y1 y0 u d q r h0 h5 D ?_
  obtain ⟨d1, _⟩ := D
  have e6 : q * (y1 * 4294967296 + y0) = q * y1 * 4294967296 + p := by rw [hp]; grind
  rw [e6]
  generalize q * y1 = B at *
  omega

theorem dig_break (y1 y0 u d q r : Int) (h0 : 0 ≤ u) (h3 : 0 ≤ y0) (h4 : y0 < 4294967296) (h6 : 0 ≤ d) (h5 : u < y1 * 4294967296 + y0) (D : Dig y1 y0 u d q r) (hq : q ≤ 4294967296) (h : 4294967296 ≤ r) :
    q = (u * 4294967296 + d) / (y1 * 4294967296 + y0) ∧ u * 4294967296 + d - q * (y1 * 4294967296 + y0) = (u * 4294967296 + d) % (y1 * 4294967296 + y0) := by
  refine dig_exit y1 y0 u d q r (q * y0) h0 h5 D rfl ?_
  obtain ⟨_, _, _, d4, _⟩ := D
  have : q * y0 ≤ 4294967296 * 4294967295 := Int.mul_le_mul hq (by omega) h3 (by omega)
  omega

/-! ### shifts and masks of 64 bits -/
theorem maskI (x : Int) (h0 : 0 ≤ x) (h1 : x < 18446744073709551616) : bits .and .u64 x 4294967295 = x % 4294967296 := by
  obtain ⟨a, rfl⟩ := Int.eq_ofNat_of_zero_le h0
  have h := bits_and_u64_nat a 4294967295 (by omega) (by omega)
  have e : a &&& 4294967295 = a % 4294967296 := Nat.and_two_pow_sub_one_eq_mod a 32
  rw [e] at h
  exact h

theorem or_shift (a b s : Nat) (hb : b < 2 ^ s) (ha : a * 2 ^ s < 18446744073709551616) (hb2 : b < 18446744073709551616) : bits .or .u64 ((a * 2 ^ s : Nat) : Int) (b : Int) = ((a * 2 ^ s + b : Nat) : Int) := by
  have h := bits_or_u64_nat (a * 2 ^ s) b ha hb2
  rw [h, ← Nat.shiftLeft_eq, ← Nat.shiftLeft_add_eq_or_of_lt hb]
end Go.Proofs.YtodnllopokoicaaGreat.NumK
namespace Go.Proofs.YtodnllopokoicaaGreat.NumK
open Go.RowKit

theorem pow_nat (s : Nat) : ((2 : Int) ^ s) = ((2 ^ s : Nat) : Int) := by simp

theorem scaled (hi lo y s : Int) (h0 : 0 ≤ hi) (h1 : hi < y) (l0 : 0 ≤ lo) (l1 : lo ≤ 18446744073709551615) (s0 : 0 ≤ s) (s1 : s ≤ 63) (p0 : 2 ^ (63 - s).toNat ≤ y) (p1 : y < 2 ^ (64 - s).toNat) :
    ∃ Y H B U L y1 y0 d1 d0 : Int, IntKind.u64.wrap (y * 2 ^ s.toNat) = Y ∧ IntKind.u64.wrap (hi * 2 ^ s.toNat) = H ∧ lo / 2 ^ (64 - s).toNat = B ∧ bits .or .u64 H B = U ∧ IntKind.u64.wrap (lo * 2 ^ s.toNat) = L
      ∧ Y / 4294967296 = y1 ∧ bits .and .u64 Y 4294967295 = y0 ∧ L / 4294967296 = d1 ∧ bits .and .u64 L 4294967295 = d0
      ∧ Y = y1 * 4294967296 + y0 ∧ 2147483648 ≤ y1 ∧ y1 < 4294967296 ∧ 0 ≤ y0 ∧ y0 < 4294967296 ∧ 0 ≤ d1 ∧ d1 < 4294967296 ∧ 0 ≤ d0 ∧ d0 < 4294967296 ∧ 0 ≤ U ∧ U < Y
      ∧ (0 ≤ H ∧ H < 18446744073709551616) ∧ (0 ≤ B ∧ B < 18446744073709551616) ∧ (0 ≤ L ∧ L < 18446744073709551616)
      ∧ U * 18446744073709551616 + (d1 * 4294967296 + d0) = (hi * 18446744073709551616 + lo) * 2 ^ s.toNat ∧ Y = y * 2 ^ s.toNat := by
  obtain ⟨k, rfl⟩ := Int.eq_ofNat_of_zero_le s0
  have k1 : k ≤ 63 := by omega
  have t1 : ((k : Int)).toNat = k := by omega
  have t2 : (64 - (k : Int)).toNat = 64 - k := by omega
  have t3 : (63 - (k : Int)).toNat = 63 - k := by omega
  rw [t2] at p1
  rw [t3] at p0
  rw [t1, t2]
  have hST : (2 : Int) ^ k * 2 ^ (64 - k) = 18446744073709551616 := by
    rw [← Int.pow_add, show k + (64 - k) = 64 by omega]; rfl
  have hSV : (2 : Int) ^ k * 2 ^ (63 - k) = 9223372036854775808 := by
    rw [← Int.pow_add, show k + (63 - k) = 63 by omega]; rfl
  have hS : (0 : Int) < 2 ^ k := Int.pow_pos (by omega)
  have hT : (0 : Int) < 2 ^ (64 - k) := Int.pow_pos (by omega)
  obtain ⟨a, rfl⟩ := Int.eq_ofNat_of_zero_le h0
  obtain ⟨l, rfl⟩ := Int.eq_ofNat_of_zero_le l0
  have hB0 : 0 ≤ (l : Int) / 2 ^ (64 - k) := Int.ediv_nonneg (by omega) (by omega)
  have hB1 : (l : Int) / 2 ^ (64 - k) < 2 ^ k := by
    apply Int.ediv_lt_of_lt_mul hT
    rw [hST]; omega
  obtain ⟨b, hb⟩ := Int.eq_ofNat_of_zero_le hB0
  have hY1 : y * 2 ^ k < 18446744073709551616 := by
    have := Int.mul_lt_mul_of_pos_right p1 hS
    rw [Int.mul_comm (2 ^ (64 - k)), hST] at this; exact this
  have hY0 : 9223372036854775808 ≤ y * 2 ^ k := by
    have := Int.mul_le_mul_of_nonneg_right p0 (Int.le_of_lt hS)
    rw [Int.mul_comm (2 ^ (63 - k)), hSV] at this; exact this
  have hU : (a : Int) * 2 ^ k + 2 ^ k ≤ y * 2 ^ k := by
    have := Int.mul_le_mul_of_nonneg_right (show (a : Int) + 1 ≤ y by omega) (Int.le_of_lt hS)
    rw [Int.add_mul, Int.one_mul] at this; exact this
  have hA0 : 0 ≤ (a : Int) * 2 ^ k := Int.mul_nonneg (by omega) (by omega)
  have hwY : IntKind.u64.wrap (y * 2 ^ k) = y * 2 ^ k := by rw [IntKind.wrap_u64]; omega
  have hwH : IntKind.u64.wrap ((a : Int) * 2 ^ k) = (a : Int) * 2 ^ k := by rw [IntKind.wrap_u64]; omega
  have hl := Int.mul_ediv_add_emod (l : Int) (2 ^ (64 - k))
  have hl0 := Int.emod_nonneg (l : Int) (show (2 : Int) ^ (64 - k) ≠ 0 by omega)
  have hl1 := Int.emod_lt_of_pos (l : Int) hT
  have hL0 : 0 ≤ (l : Int) % 2 ^ (64 - k) * 2 ^ k := Int.mul_nonneg hl0 (by omega)
  have hL1 : (l : Int) % 2 ^ (64 - k) * 2 ^ k < 18446744073709551616 := by
    have := Int.mul_lt_mul_of_pos_right hl1 hS
    rw [Int.mul_comm (2 ^ (64 - k)), hST] at this; exact this
  have hL : (l : Int) * 2 ^ k = (l : Int) / 2 ^ (64 - k) * 18446744073709551616 + (l : Int) % 2 ^ (64 - k) * 2 ^ k := by
    have e : ((2 : Int) ^ (64 - k) * ((l : Int) / 2 ^ (64 - k)) + (l : Int) % 2 ^ (64 - k)) * 2 ^ k = (l : Int) / 2 ^ (64 - k) * (2 ^ k * 2 ^ (64 - k)) + (l : Int) % 2 ^ (64 - k) * 2 ^ k := by grind
    rw [hl, hST] at e
    exact e
  have hwL : IntKind.u64.wrap ((l : Int) * 2 ^ k) = (l : Int) % 2 ^ (64 - k) * 2 ^ k := by rw [IntKind.wrap_u64, hL]; omega
  have hO : bits .or .u64 ((a : Int) * 2 ^ k) (l / 2 ^ (64 - k)) = (a : Int) * 2 ^ k + (l : Int) / 2 ^ (64 - k) := by
    have hA1 : (a : Int) * 2 ^ k < 18446744073709551616 := by omega
    rw [hb]
    rw [pow_nat, ← Int.natCast_mul] at hA1
    have hA2 : a * 2 ^ k < 18446744073709551616 := by omega
    have hB2 : b < 2 ^ k := by rw [hb, pow_nat] at hB1; omega
    have hB3 : b < 18446744073709551616 := by
      have : (2 : Nat) ^ k ≤ 2 ^ 63 := Nat.pow_le_pow_right (by omega) k1
      omega
    have := or_shift a b k hB2 hA2 hB3
    rw [pow_nat, ← Int.natCast_mul, this, Int.natCast_add]
  rw [hwY, hwH, hwL]
  have hmY := maskI (y * 2 ^ k) (by omega) (by omega)
  have hmL := maskI ((l : Int) % 2 ^ (64 - k) * 2 ^ k) (by omega) (by omega)
  have hN : ((a : Int) * 2 ^ k + (l : Int) / 2 ^ (64 - k)) * 18446744073709551616 + (l : Int) % 2 ^ (64 - k) * 2 ^ k = (a * 18446744073709551616 + l) * 2 ^ k := by
    rw [Int.add_mul, Int.add_mul (a * 18446744073709551616), hL]
    have : (a : Int) * 2 ^ k * 18446744073709551616 = a * 18446744073709551616 * 2 ^ k := by grind
    omega
  refine ⟨_, _, _, _, _, _, _, _, _, rfl, rfl, rfl, hO, rfl, rfl, hmY, rfl, hmL, ?_⟩
  generalize (a : Int) * 2 ^ k = A at *
  generalize (l : Int) % 2 ^ (64 - k) * 2 ^ k = L at *
  generalize (l : Int) / 2 ^ (64 - k) = B at *
  generalize y * 2 ^ k = Y at *
  generalize (a * 18446744073709551616 + l : Int) * 2 ^ k = N at *
  have hSb : (2 : Int) ^ k ≤ 9223372036854775808 := by
    have : (2 : Int) ^ k * 1 ≤ 2 ^ k * 2 ^ (63 - k) := Int.mul_le_mul_of_nonneg_left (by have : (0 : Int) < 2 ^ (63 - k) := Int.pow_pos (by omega); omega) (by omega)
    omega
  generalize (2 : Int) ^ k = S at *
  refine ⟨by omega, by omega, by omega, by omega, by omega, by omega, by omega, by omega, by omega, by omega, by omega, ⟨by omega, by omega⟩, ⟨by omega, by omega⟩, ⟨by omega, by omega⟩, by omega, rfl⟩

theorem digit (Y y1 y0 u d : Int) (f1 : Y = y1 * 4294967296 + y0) (f2 : 2147483648 ≤ y1) (f3 : y1 < 4294967296) (f4 : 0 ≤ y0) (f5 : y0 < 4294967296) (f6 : 0 ≤ d) (f7 : d < 4294967296) (f10 : 0 ≤ u) (f11 : u < Y) :
    ∃ q m q2 V a1 a2 a3 : Int, IntKind.u64.wrap (u.tdiv y1) = q ∧ IntKind.u64.wrap (q * y1) = m ∧ Dig y1 y0 u d q (u - m) ∧ 0 ≤ q ∧ q ≤ 4294967297 ∧ 0 ≤ m ∧ m ≤ u ∧ u - m < y1
      ∧ (u * 4294967296 + d) / (y1 * 4294967296 + y0) = q2 ∧ 0 ≤ q2 ∧ q2 < 4294967296 ∧ IntKind.u64.wrap (u * 4294967296) = a1 ∧ IntKind.u64.wrap (a1 + d) = a2 ∧ IntKind.u64.wrap (q2 * Y) = a3 ∧ IntKind.u64.wrap (a2 - a3) = V
      ∧ 0 ≤ V ∧ V < Y ∧ u * 4294967296 + d = q2 * Y + V := by
  obtain ⟨dg, dr⟩ := dig_start y1 y0 u d (u / y1) f2 f4 f5 f10 (by omega) f7 rfl
  obtain ⟨a1, a2, a3, a4, a5⟩ := id dg
  have m0 : 0 ≤ u / y1 * y1 := Int.mul_nonneg a4 (by omega)
  have e1 : IntKind.u64.wrap (u.tdiv y1) = u / y1 := by rw [Int.tdiv_eq_ediv_of_nonneg f10, IntKind.wrap_u64]; omega
  have e2 : IntKind.u64.wrap (u / y1 * y1) = u / y1 * y1 := by
    generalize u / y1 * y1 = M at *
    rw [IntKind.wrap_u64]; omega
  rw [← f1]
  have n0 : 0 ≤ (u * 4294967296 + d) / Y := Int.ediv_nonneg (by omega) (by omega)
  have n1 : (u * 4294967296 + d) / Y < 4294967296 := Int.ediv_lt_of_lt_mul (by omega) (by omega)
  have n2 := Int.mul_ediv_add_emod (u * 4294967296 + d) Y
  have n3 := Int.emod_nonneg (u * 4294967296 + d) (show Y ≠ 0 by omega)
  have n4 := Int.emod_lt_of_pos (u * 4294967296 + d) (show 0 < Y by omega)
  rw [Int.mul_comm] at n2
  refine ⟨_, _, _, (u * 4294967296 + d) % Y, _, _, _, e1, e2, dg, a4, a5, m0, by omega, dr, rfl, n0, n1, rfl, rfl, rfl, ?_, n3, n4, n2.symm⟩
  generalize (u * 4294967296 + d) / Y * Y = A at *
  generalize (u * 4294967296 + d) % Y = B at *
  rw [IntKind.wrap_u64, IntKind.wrap_u64, IntKind.wrap_u64, IntKind.wrap_u64]
  omega

theorem scaled_quo (N y S Q R : Int) (hS : 0 < S) (h : N * S = Q * (y * S) + R) (h0 : 0 ≤ R) (h1 : R < y * S) (hy : 0 < y) : N / y = Q ∧ N % y = R / S := by
  have e : R = (N - Q * y) * S := by grind
  have e2 : R / S = N - Q * y := by rw [e]; exact Int.mul_ediv_cancel _ (by omega)
  have b0 : 0 ≤ N - Q * y := by
    rw [e] at h0
    exact Int.nonneg_of_mul_nonneg_left h0 hS
  have b1 : N - Q * y < y := by
    rw [e] at h1
    exact Int.lt_of_mul_lt_mul_right h1 (by omega)
  rw [e2]
  exact (Int.ediv_emod_unique hy).2 ⟨by rw [Int.mul_comm]; omega, b0, b1⟩
end Go.Proofs.YtodnllopokoicaaGreat.NumK
