/- Contracts of package share: sum. -/
import Derived.Test.YtahioajpmlochaaGreatRH16
import Derived.Test.YtahioajpmlochaaGreatRH7
import Derived.Test.YtahioajpmlochaaGreatRH2
import Derived.Test.YtahioajpmlochaaGreatRH1
import Derived.Deep.RegionWith
import Derived.Test.YtahioajpmlochaaGreatRH4
import Derived.Deep.DeepCutAuto
import Derived.Deep.CutBlock
namespace Go.Proofs.YtahioajpmlochaaGreat.NumK
open Go.RowKit

def sumTo (l : List Int) (k : Nat) : Int := (l.take k).sum
theorem sumTo_bd (l : List Int) (k : Nat) (h0 : ∀ x ∈ l, 0 ≤ x) (h1 : l.all isMoney = true) (hn : l.length ≤ 1024) : 0 ≤ sumTo l k ∧ sumTo l k ≤ 4722366482869645213696 := by
  have : ∀ l : List Int, (∀ x ∈ l, 0 ≤ x) → l.all isMoney = true → 0 ≤ l.sum ∧ l.sum ≤ l.length * 4611686018427387904 := by
    intro l
    induction l with
    | nil => intro _ _; simp
    | cons x l ih =>
      intro g0 g1
      simp only [List.all_cons, Bool.and_eq_true, isMoney_iff] at g1
      have := ih (fun y hy => g0 y (by simp [hy])) g1.2
      have := g0 x (by simp)
      simp only [List.sum_cons, List.length_cons]; omega
  have h2 := this (l.take k) (fun x hx => h0 x (List.mem_of_mem_take hx)) (by rw [List.all_eq_true]; intro x hx; exact (List.all_eq_true.1 h1) x (List.mem_of_mem_take hx))
  have h3 : (l.take k).length ≤ 1024 := by rw [List.length_take]; omega
  unfold sumTo; omega

set_option maxRecDepth 100000 in
set_option maxHeartbeats 1000000 in
theorem shareSum_any (A : Option Addr) (n c : Nat) (zs : List Int) (w : World) (hz : Ints w A n zs) (h0 : ∀ x ∈ zs, 0 ≤ x) (h1 : zs.all isMoney = true) (hn : n ≤ 1024) :
    Calls Tryz.prog 37 #[.slice A n c] w fun e w' => e = .returned (.agg #[.int .i64 (hi64 zs.sum), .int .u64 (lo64 zs.sum)]) ∧ Grew w w' := by
  have HZ := Lib.hid hz
  have H0 := Lib.hid h0
  have H1 := Lib.hid h1
  clear hz h0 h1
  go_enter Tryz.func37, Tryz.ntmps37
  go_wp2
  have HO : Hid (Own2 ((w.alloc (.cells #[.int .i64 0, .int .u64 0] 84)).alloc (.cells #[.int .i64 0, .int .u64 0] 84)) w.heap.size (.int .i64 0) (.int .u64 0)) := (Own2.new w _ _ _ _ rfl).keep (grew_alloc _ _ _)
  have HP : Hid (Own2 ((w.alloc (.cells #[.int .i64 0, .int .u64 0] 84)).alloc (.cells #[.int .i64 0, .int .u64 0] 84)) (w.heap.size + 1) (.int .i64 0) (.int .u64 0)) := Own2.new _ _ _ _ _ (by simp)
  have HG : Hid (Grew w ((w.alloc (.cells #[.int .i64 0, .int .u64 0] 84)).alloc (.cells #[.int .i64 0, .int .u64 0] 84))) := grew_al (grew_al (grew_refl _) _) _
  generalize hw1 : (w.alloc (.cells #[.int .i64 0, .int .u64 0] 84)).alloc (.cells #[.int .i64 0, .int .u64 0] 84) = w1 at HO HP HG ⊢
  clear hw1
  go_loopw [9, 5] (fun vi v5 wr => ∃ k : Nat, vi = .int .i64 k ∧ k ≤ n ∧ Hid (Own2 wr w.heap.size (.int .i64 0) (.int .u64 0)) ∧ Hid (Own2 wr (w.heap.size + 1) (.int .i64 (hi64 (sumTo zs k))) (.int .u64 (lo64 (sumTo zs k)))) ∧ Hid (Grew w wr)) (fun vi _ _ => n - (intOf vi).toNat)
  case atStart => exact ⟨0, rfl, Nat.zero_le _, HO, HP, HG⟩
  case round =>
    clear HO HP HG
    obtain ⟨k, rfl, hk, HO, HP, HG⟩ := hrel
    by_cases hlt : k < n
    · have hlen := HZ.out.1
      obtain ⟨b, o, rfl, hb, hc⟩ := (HZ.out.keep HG.out).2 (by omega)
      have hcell := hc k hlt
      have hst := sum_take_succ zs k (by omega)
      have hs1 := sumTo_bd zs k H0.out H1.out (by omega)
      have hs2 := sumTo_bd zs (k + 1) H0.out H1.out (by omega)
      have hm : isMoney (zs.getD k 0) = true := (List.all_eq_true.1 H1.out) _ (by rw [List.getD_eq_getElem?_getD, List.getElem?_eq_getElem (by omega)]; exact List.getElem_mem _)
      rw [isMoney_iff] at hm
      have HE : Hid (sumTo zs (k + 1) = sumTo zs k + zs.getD k 0) := hst
      generalize zs.getD k 0 = y at *
      have C1 := fun w => wof_any y w (by omega)
      have C2 := fun w => splus_any (sumTo zs k) y w (wide_in _ (by omega)) (wide_in _ (by omega)) (wide_in _ (by have := HE.out; omega))
      rw [← HE.out] at C2
      clear hst hs1 hs2 hm hc hlen HE
      generalize hB1 : hi64 (sumTo zs (k + 1)) = b1 at *
      generalize hB2 : lo64 (sumTo zs (k + 1)) = b2 at *
      have HB1 := Lib.hid hB1.symm
      have HB2 := Lib.hid hB2.symm
      clear hB1 hB2
      generalize hi64 (sumTo zs k) = a1 at *
      generalize lo64 (sumTo zs k) = a2 at *
      generalize hi64 y = y1 at *
      generalize lo64 y = y2 at *
      have q1 := HP.out.c0
      have q2 := HP.out.c1
      have q3 := HP.out.f0
      have q4 := HP.out.f1
      have q5 := HP.out.lt
      go_wp2_with fail
      go_region_with (first
        | (go_at_call 64; ((with_reducible refine (C1 _).mono ?_); rintro e w1 ⟨rfl, hg1⟩; have k0 := HP.out.keep (grew_trans (grew_drew (grew_refl _)) hg1); have q1' := k0.c0; have q2' := k0.c1))
        | (go_at_call 63; ((with_reducible refine (C2 _).mono ?_); rintro e w2 ⟨rfl, hg2⟩; have k1 := HP.out.keep (grew_trans (grew_trans (grew_drew (grew_refl _)) hg1) hg2); have q1'' := k1.c0; have q2'' := k1.c1; have q3'' := k1.f0; have q4'' := k1.f1; have q5'' := k1.lt)))
      all_goals
        have HP2 : Hid (Own2 ((w2.setCell ⟨w.heap.size + 1, 0, none⟩ (.int .i64 b1)).setCell ⟨w.heap.size + 1, 1, none⟩ (.int .u64 b2)) (w.heap.size + 1) (.int .i64 b1) (.int .u64 b2)) := k1.set _ _
        have HG2 : Hid (Grew w w2) := grew_trans HG.out (grew_trans (grew_trans (grew_drew (grew_refl _)) hg1) hg2)
        have HO2 : Hid (Own2 ((w2.setCell ⟨w.heap.size + 1, 0, none⟩ (.int .i64 b1)).setCell ⟨w.heap.size + 1, 1, none⟩ (.int .u64 b2)) w.heap.size (.int .i64 0) (.int .u64 0)) := ((HO.out.keep (grew_trans (grew_trans (grew_drew (grew_refl _)) hg1) hg2)).other _ _ (by simp)).other _ _ (by simp)
        have HG3 : Hid (Grew w ((w2.setCell ⟨w.heap.size + 1, 0, none⟩ (.int .i64 b1)).setCell ⟨w.heap.size + 1, 1, none⟩ (.int .u64 b2))) := grew_set (grew_set HG2.out _ (by simp)) _ (by simp)
        clear q1 q2 q3 q4 q5 q1' q2' q1'' q2'' q3'' q4'' q5'' k0 k1 hg1 hg2 HG2 C1 C2 hcell
        generalize (w2.setCell ⟨w.heap.size + 1, 0, none⟩ (.int .i64 b1)).setCell ⟨w.heap.size + 1, 1, none⟩ (.int .u64 b2) = w3 at HP2 HO2 HG3 ⊢
        go_wp2
        go_roundw
        case rel => exact ⟨k + 1, by go_num, by omega, HO2, by first | exact HP2 | (rw [HB1.out, HB2.out] at HP2; exact HP2), HG3⟩
        case measure => simp only [intOf]; omega
    · obtain rfl : k = n := by omega
      have hl : sumTo zs k = zs.sum := by unfold sumTo; rw [List.take_of_length_le (by have := HZ.out.1; omega)]
      rw [hl] at HP
      clear hl
      generalize hA : hi64 zs.sum = a1 at *
      generalize hB : lo64 zs.sum = a2 at *
      have HA := Lib.hid hA.symm
      have HB := Lib.hid hB.symm
      clear hA hB
      have q1 := HP.out.c0
      have q2 := HP.out.c1
      have q3 := HO.out.c0
      have q4 := HO.out.c1
      have q5 := HO.out.f0
      have q6 := HO.out.f1
      have q7 := HO.out.lt
      have HO2 : Hid (Own2 ((wr.setCell ⟨w.heap.size, 0, none⟩ (.int .i64 a1)).setCell ⟨w.heap.size, 1, none⟩ (.int .u64 a2)) w.heap.size (.int .i64 a1) (.int .u64 a2)) := HO.out.set _ _
      go_wp2
      exact bodyPost_ret (v := .agg #[.int .i64 a1, .int .u64 a2]) (by simp [results, Tryz.results37, go_sem, HO2.out.c0, HO2.out.c1]) rfl ⟨ret_wv HA.out HB.out, grew_set (grew_set HG.out _ (by simp)) _ (by simp)⟩
end Go.Proofs.YtahioajpmlochaaGreat.NumK
namespace Go.Proofs.YtahioajpmlochaaGreat.NumK
open Go.RowKit

theorem bitLen_gt : ∀ (k x : Nat), x ≤ k → x < 2 ^ 64 → x < 2 ^ Lib.bitLen x := by
  intro k
  induction k with
  | zero => intro x h _; obtain rfl : x = 0 := by omega
            exact Nat.two_pow_pos _
  | succ k ih =>
    intro x h hx
    by_cases c : x = 0
    · subst c; exact Nat.two_pow_pos _
    · rw [Lib.bitLen_half x c hx, Nat.add_comm, Nat.pow_succ]
      have := ih (x / 2) (by omega) (by omega)
      omega

theorem bitsLen_any (x : Int) (w : World) (h0 : 0 ≤ x) (h1 : x ≤ 18446744073709551615) :
    Calls Tryz.prog 90 #[.int .u64 x] w fun e w' => e = .returned (.int .i64 (Lib.bitLen x.toNat)) ∧ w = w' := by
  have C := fun w => len64_any x w h0 h1
  generalize Lib.bitLen x.toNat = b at *
  go_enter Tryz.func90, Tryz.ntmps90
  go_wp2_with (go_at_call 101; ((with_reducible refine (C _).mono ?_); rintro e w' ⟨rfl, rfl⟩))
  go_ret
  exact ⟨rfl, rfl⟩

theorem minus_any (x y : Int) (w : World) (h0 : 0 ≤ y) (h1 : y ≤ x) (hx : isWide x = true) :
    Calls Tryz.prog 91 #[.agg #[.int .i64 (hi64 x), .int .u64 (lo64 x)], .agg #[.int .i64 (hi64 y), .int .u64 (lo64 y)]] w fun e w' => e = .returned (.agg #[.int .i64 (hi64 (x - y)), .int .u64 (lo64 (x - y))]) ∧ Grew w w' := by
  have hy : isWide y = true := by rw [isWide_iff] at *; omega
  have bx := lo_bounds x
  have byy := lo_bounds y
  have ex := w_eq x
  have ey := w_eq y
  have h2 := hi_bounds x hx
  have h3 := hi_bounds y hy
  have hn : 0 ≤ hi64 y := by unfold hi64; omega
  have hn2 : 0 ≤ hi64 x := by unfold hi64; omega
  obtain ⟨s, hs⟩ : ∃ s, s = (lo64 x - lo64 y) % 18446744073709551616 := ⟨_, rfl⟩
  obtain ⟨d, hd⟩ : ∃ d, d = if lo64 x < lo64 y then (1 : Int) else 0 := ⟨_, rfl⟩
  have A1 := sub64_named (lo64 x) (lo64 y) s d (by omega) (by omega) (by omega) hs hd
  have hd2 : 0 ≤ d ∧ d ≤ 1 := by rw [hd]; split <;> omega
  have U := w_unique (x - y) (hi64 x - hi64 y - d) s (by rw [hs, hd]; split <;> omega) (by omega) (by omega)
  have HU := Lib.hid U
  have hlow : -1 ≤ hi64 x - hi64 y - d := by omega
  clear U hs hd ex ey hx hy h0 h1
  generalize hi64 x = xh at *
  generalize lo64 x = xl at *
  generalize hi64 y = yh at *
  generalize lo64 y = yl at *
  obtain ⟨b1, b2⟩ := bx
  obtain ⟨b3, b4⟩ := byy
  obtain ⟨b5, b6⟩ := h2
  obtain ⟨b7, b8⟩ := h3
  obtain ⟨b9, b10⟩ := hd2
  go_enter Tryz.func91, Tryz.ntmps91
  go_wp2_with (rw [A1])
  exact bodyPost_ret (v := .agg #[.int .i64 (xh - yh - d), .int .u64 s]) (by simp [results, Tryz.results91, go_sem]) rfl ⟨ret_wv HU.out.1.symm HU.out.2.symm, grew_al (grew_al (grew_al (grew_refl _) _) _) _⟩
end Go.Proofs.YtahioajpmlochaaGreat.NumK
namespace Go.Proofs.YtahioajpmlochaaGreat.NumK
open Go.RowKit

/-- What is divided so far: the upper bits of T by w. -/
def LP (T w S : Int) (k : Nat) (q r : Int) : Prop := q * S + r = (T / 2 ^ k) * w ∧ 0 ≤ r ∧ r < S ∧ 0 ≤ q ∧ q ≤ T / 2 ^ k

theorem lp_start (T w S : Int) (k : Nat) (hT : 0 ≤ T) (hk : T < 2 ^ k) (hS : 0 < S) : LP T w S k 0 0 := by
  have : T / 2 ^ k = 0 := Int.ediv_eq_zero_of_lt hT hk
  unfold LP
  rw [this]; simp; omega

theorem mask1 (n : Int) : bits .and .i64 n 1 = n % 2 := by
  have hm : (BitVec.ofInt 64 1).toNat = 2 ^ 1 - 1 := by decide
  have key : (BitVec.ofInt 64 n &&& BitVec.ofInt 64 1).toNat = (n % ((2 ^ 64 : Nat) : Int)).toNat % 2 ^ 1 := by
    rw [BitVec.toNat_and, BitVec.toNat_ofInt, hm, Nat.and_two_pow_sub_one_eq_mod]
  show IntKind.i64.wrap ((BitVec.ofInt 64 n &&& BitVec.ofInt 64 1).toNat : Nat) = n % 2
  rw [key, IntKind.wrap_i64]
  omega

/-- Behind a digit: not yet reduced. -/
def LM (S V : Int) (q r : Int) : Prop := q * S + r = V ∧ 0 ≤ r ∧ r < 4 * S ∧ 0 ≤ q ∧ q ≤ 4611686018427387904

theorem div_pow_succ (T : Int) (k : Nat) : T / 2 ^ (k + 1) = T / 2 ^ k / 2 := by
  rw [Int.pow_succ, Int.ediv_ediv_of_nonneg]
  exact Int.le_of_lt (Int.pow_pos (by omega))

set_option maxRecDepth 100000 in
set_option maxHeartbeats 1000000 in
theorem longPortion_any (T y S : Int) (w : World) (hT : 0 ≤ T) (hT2 : T ≤ 4611686018427387904) (hy : 0 ≤ y) (hy2 : y ≤ 4611686018427387904) (hS : 4611686018427387904 < S) (hS2 : S ≤ 4722366482869645213696) :
    Calls Tryz.prog 66 #[.int .i64 T, .int .i64 y, .agg #[.int .i64 (hi64 S), .int .u64 (lo64 S)]] w fun e w' =>
      e = .returned (.tuple #[.int .i64 (T * y / S), .agg #[.int .i64 (hi64 (T * y % S)), .int .u64 (lo64 (T * y % S))]]) ∧ Grew w w' := by
  have CL := fun w => bitsLen_any T w hT (by omega)
  have hlen : Lib.bitLen T.toNat ≤ 63 := Lib.bitLen_le _ _ (by omega) (by omega)
  have hgt := bitLen_gt T.toNat T.toNat (Nat.le_refl _) (by omega)
  have HGT : Hid (T < 2 ^ Lib.bitLen T.toNat) := by
    show _ < _
    have : ((2 ^ Lib.bitLen T.toNat : Nat) : Int) = 2 ^ Lib.bitLen T.toNat := by simp
    omega
  have wT : IntKind.u64.wrap T = T := by rw [IntKind.wrap_u64]; omega
  clear hgt
  generalize Lib.bitLen T.toNat = len at *
  generalize hSh : hi64 S = sh at *
  generalize hSl : lo64 S = sl at *
  have HSh := Lib.hid hSh.symm
  have HSl := Lib.hid hSl.symm
  clear hSh hSl
  go_enter Tryz.func66, Tryz.ntmps66
  go_wp2_with (go_at_call 90; ((with_reducible refine (CL _).mono ?_); rintro e w' ⟨rfl, rfl⟩))
  have HO : Hid (Own2 ((w.alloc (.cells #[.int .i64 sh, .int .u64 sl] 84)).alloc (.cells #[.int .i64 0, .int .u64 0] 84)) w.heap.size (.int .i64 sh) (.int .u64 sl)) := (Own2.new w _ _ _ _ rfl).keep (grew_alloc _ _ _)
  have HP : Hid (Own2 ((w.alloc (.cells #[.int .i64 sh, .int .u64 sl] 84)).alloc (.cells #[.int .i64 0, .int .u64 0] 84)) (w.heap.size + 1) (.int .i64 (hi64 0)) (.int .u64 (lo64 0))) := Own2.new _ _ _ _ _ (by simp)
  have HG : Hid (Grew w ((w.alloc (.cells #[.int .i64 sh, .int .u64 sl] 84)).alloc (.cells #[.int .i64 0, .int .u64 0] 84))) := grew_al (grew_al (grew_refl _) _) _
  generalize hw1 : (w.alloc (.cells #[.int .i64 sh, .int .u64 sl] 84)).alloc (.cells #[.int .i64 0, .int .u64 0] 84) = w1 at HO HP HG ⊢
  clear hw1
  go_loopw [6, 8] (fun vq vb wr => ∃ (b : Nat) (q r : Int), vq = .int .i64 q ∧ vb = .int .i64 ((b : Int) - 1) ∧ b ≤ 63 ∧ Hid (LP T y S b q r) ∧ Hid (Own2 wr w.heap.size (.int .i64 sh) (.int .u64 sl)) ∧ Hid (Own2 wr (w.heap.size + 1) (.int .i64 (hi64 r)) (.int .u64 (lo64 r))) ∧ Hid (Grew w wr)) (fun _ vb _ => (intOf vb + 1).toNat)
  case atStart => exact ⟨len, 0, 0, rfl, rfl, hlen, lp_start T y S len hT HGT.out (by omega), HO, HP, HG⟩
  case round =>
    clear HO HP HG
    obtain ⟨b, q, r, rfl, rfl, hb, HL, HO, HP, HG⟩ := hrel
    by_cases hlt : 0 < b
    · obtain ⟨b, rfl⟩ : ∃ c, b = c + 1 := ⟨b - 1, by omega⟩
      have zb : ((b + 1 : Nat) : Int) - 1 = (b : Int) := by omega
      rw [zb]
      have q1 := HP.out.c0
      have q2 := HP.out.c1
      have q3 := HP.out.f0
      have q4 := HP.out.f1
      have q5 := HP.out.lt
      obtain ⟨l1, l2, l3, l4, l5⟩ := HL.out
      have hd := div_pow_succ T b
      have hTb : 0 ≤ T / 2 ^ b := Int.ediv_nonneg hT (Int.le_of_lt (Int.pow_pos (by omega)))
      have hTb2 : T / 2 ^ b ≤ T := Int.ediv_le_self _ hT
      have hmk := mask1 (T / 2 ^ b)
      generalize hu : T / 2 ^ b = u at *
      have HU := Lib.hid hu
      have HD := Lib.hid hd
      clear hd
      have C1 := fun w => splus_any r r w (wide_in _ (by omega)) (wide_in _ (by omega)) (wide_in _ (by omega))
      have lq : q ≤ 2305843009213693952 := by have := HD.out; omega
      have lq2 : Hid (q * 2 ≤ u) := by show _ ≤ _; have := HD.out; omega
      have L1 : Hid ((2 * q) * S + (r + r) + (u % 2) * y = u * y) := by
        show _ = _
        rw [HD.out] at l1
        have e1 : u = u / 2 * 2 + u % 2 := by omega
        have e2 : u * y = (u / 2 * y) * 2 + u % 2 * y := by
          conv => lhs; rw [e1]
          rw [Int.add_mul, Int.mul_right_comm]
        rw [e2, ← l1, Int.mul_assoc]; omega
      clear l1 l5
      go_upto_if 26 with (go_at_call 63; ((with_reducible refine (C1 _).mono ?_); rintro e w2 ⟨rfl, hg2⟩; have k1 := HP.out.keep hg2; have p1 := k1.c0; have p2 := k1.c1; have p3 := k1.f0; have p4 := k1.f1; have p5 := k1.lt))
      have HP2 : Hid (Own2 ((w2.setCell ⟨w.heap.size + 1, 0, none⟩ (.int .i64 (hi64 (r + r)))).setCell ⟨w.heap.size + 1, 1, none⟩ (.int .u64 (lo64 (r + r)))) (w.heap.size + 1) (.int .i64 (hi64 (r + r))) (.int .u64 (lo64 (r + r)))) := k1.set _ _
      have HO2 : Hid (Own2 ((w2.setCell ⟨w.heap.size + 1, 0, none⟩ (.int .i64 (hi64 (r + r)))).setCell ⟨w.heap.size + 1, 1, none⟩ (.int .u64 (lo64 (r + r)))) w.heap.size (.int .i64 sh) (.int .u64 sl)) := ((HO.out.keep hg2).other _ _ (by simp)).other _ _ (by simp)
      have HG2 : Hid (Grew w ((w2.setCell ⟨w.heap.size + 1, 0, none⟩ (.int .i64 (hi64 (r + r)))).setCell ⟨w.heap.size + 1, 1, none⟩ (.int .u64 (lo64 (r + r))))) := grew_set (grew_set (grew_trans HG.out hg2) _ (by simp)) _ (by simp)
      clear k1 p1 p2 p3 p4 p5 q1 q2 q3 q4 q5 HO HP HG hg2 C1
      generalize (w2.setCell ⟨w.heap.size + 1, 0, none⟩ (.int .i64 (hi64 (r + r)))).setCell ⟨w.heap.size + 1, 1, none⟩ (.int .u64 (lo64 (r + r))) = w3 at HP2 HO2 HG2 ⊢
      go_cut [] (fun wx => Hid (∃ r1, LM S (u * y) (2 * q) r1 ∧ Own2 wx w.heap.size (.int .i64 sh) (.int .u64 sl) ∧ Own2 wx (w.heap.size + 1) (.int .i64 (hi64 r1)) (.int .u64 (lo64 r1)) ∧ Grew w wx))
      case first => as_aux_lemma =>
        by_cases c1 : u % 2 = 1
        · have d1 : (u % 2 == 1) = true := by simp [c1]
          have D1 := Lib.hid c1
          have HQ : Hid (LM S (u * y) (2 * q) (r + r + y)) := by
            have := L1.out
            rw [c1] at this
            unfold LM
            exact ⟨by omega, by omega, by omega, by omega, by omega⟩
          have C1 := fun w => wof_any y w (by omega)
          have C2 := fun w => splus_any (r + r) y w (wide_in _ (by omega)) (wide_in _ (by omega)) (wide_in _ (by omega))
          clear c1 L1
          have q1 := HP2.out.c0
          have q2 := HP2.out.c1
          have q3 := HP2.out.f0
          have q4 := HP2.out.f1
          have q5 := HP2.out.lt
          generalize r + r = r2 at *
          generalize r2 + y = r3 at *
          generalize hA1 : hi64 r2 = a1 at *
          generalize hA2 : lo64 r2 = a2 at *
          generalize hB1 : hi64 r3 = b1 at *
          generalize hB2 : lo64 r3 = b2 at *
          have HB1 := Lib.hid hB1
          have HB2 := Lib.hid hB2
          clear hA1 hA2 hB1 hB2
          go_wp2_with fail
          go_region_with (first
            | (go_at_call 64; ((with_reducible refine (C1 _).mono ?_); rintro e w1 ⟨rfl, hg1⟩; have k0 := HP2.out.keep (grew_trans (grew_drew (grew_refl _)) hg1); have q1' := k0.c0; have q2' := k0.c1))
            | (go_at_call 63; ((with_reducible refine (C2 _).mono ?_); rintro e w2 ⟨rfl, hg2⟩; have k1 := HP2.out.keep (grew_trans (grew_trans (grew_drew (grew_refl _)) hg1) hg2); have q1'' := k1.c0; have q2'' := k1.c1; have q3'' := k1.f0; have q4'' := k1.f1; have q5'' := k1.lt)))
          all_goals
            have hgg := grew_trans (grew_trans (grew_drew (grew_refl w3)) hg1) hg2
            have HF : Hid (∃ r1, LM S (u * y) (2 * q) r1 ∧ Own2 ((w2.setCell ⟨w.heap.size + 1, 0, none⟩ (.int .i64 b1)).setCell ⟨w.heap.size + 1, 1, none⟩ (.int .u64 b2)) w.heap.size (.int .i64 sh) (.int .u64 sl) ∧ Own2 ((w2.setCell ⟨w.heap.size + 1, 0, none⟩ (.int .i64 b1)).setCell ⟨w.heap.size + 1, 1, none⟩ (.int .u64 b2)) (w.heap.size + 1) (.int .i64 (hi64 r1)) (.int .u64 (lo64 r1)) ∧ Grew w ((w2.setCell ⟨w.heap.size + 1, 0, none⟩ (.int .i64 b1)).setCell ⟨w.heap.size + 1, 1, none⟩ (.int .u64 b2))) := by
              refine ⟨r3, HQ.out, ((HO2.out.keep hgg).other _ _ (by simp)).other _ _ (by simp), ?_, grew_set (grew_set (grew_trans HG2.out hgg) _ (by simp)) _ (by simp)⟩
              rw [HB1.out, HB2.out]; exact k1.set _ _
            clear q1 q2 q3 q4 q5 q1' q2' q1'' q2'' q3'' q4'' q5'' k0 k1 hgg hg1 hg2
            go_wp2_with fail
            go_meet
            case rel => exact HF
        · have d1 : (u % 2 == 1) = false := by simp; omega
          have c2 : u % 2 = 0 := by omega
          have HQ : Hid (LM S (u * y) (2 * q) (r + r)) := by
            have := L1.out
            rw [c2] at this
            unfold LM
            exact ⟨by omega, by omega, by omega, by omega, by omega⟩
          clear c1 c2 L1
          have HF := Lib.hid (⟨r + r, HQ.out, HO2.out, HP2.out, HG2.out⟩ : ∃ r1, LM S (u * y) (2 * q) r1 ∧ Own2 w3 w.heap.size (.int .i64 sh) (.int .u64 sl) ∧ Own2 w3 (w.heap.size + 1) (.int .i64 (hi64 r1)) (.int .u64 (lo64 r1)) ∧ Grew w w3)
          go_wp2_with fail
          go_meet
          case rel => exact HF
      case rest =>
        rename World => v1
        clear HP2 HO2 HG2
        have hVb : u * y ≤ u * S := Int.mul_le_mul_of_nonneg_left (by omega) hTb
        have HVB := Lib.hid hVb
        clear hVb hmk hu L1
        obtain ⟨V, hV⟩ : ∃ V, V = u * y := ⟨_, rfl⟩
        rw [← hV] at hcut HVB
        have HV := Lib.hid hV
        clear hV
        go_wp2_with fail
        go_loopw [6] (fun v6 wr => Hid (∃ r1 q1, v6 = .int .i64 q1 ∧ LM S V q1 r1 ∧ Own2 wr w.heap.size (.int .i64 sh) (.int .u64 sl) ∧ Own2 wr (w.heap.size + 1) (.int .i64 (hi64 r1)) (.int .u64 (lo64 r1)) ∧ Grew w wr)) (fun v6 _ => (V / S - intOf v6).toNat)
        case atStart =>
          obtain ⟨r1, k1, k2, k3, k4⟩ := hcut.out
          exact ⟨r1, 2 * q, rfl, k1, k2, k3, k4⟩
        case round =>
          clear hcut
          have hr0 := hrel
          clear hrel
          obtain ⟨r1, q1, rfl, HL1, HO, HP, HG⟩ := hr0.out
          have HLM := Lib.hid HL1
          obtain ⟨m1, m2, m3, m4, m5⟩ := HL1
          have M1 := Lib.hid m1
          clear m1 hr0
          have p1 := HO.c0
          have p2 := HO.c1
          have q1c := HP.c0
          have q2c := HP.c1
          have q3c := HP.f0
          have q4c := HP.f1
          have q5c := HP.lt
          have HO' := Lib.hid HO
          have HP' := Lib.hid HP
          have HG' := Lib.hid HG
          clear HO HP HG
          have CL1 := fun w => wless_any r1 S w
          rw [← HSh.out, ← HSl.out] at CL1
          by_cases hlt2 : r1 < S
          · have d1 : decide (r1 < S) = true := decide_eq_true hlt2
            rw [d1] at CL1
            have HF : Hid (LP T y S b q1 r1) := by
              refine ⟨by rw [HU.out, ← HV.out]; exact M1.out, m2, hlt2, m4, ?_⟩
              rw [HU.out]
              have h1 := M1.out
              have h2 := HVB.out
              exact Int.le_of_mul_le_mul_right (a := S) (by omega) (by omega)
            clear d1
            go_wp2_with (go_at_call 71; ((with_reducible refine (CL1 _).mono ?_); rintro e w2 ⟨rfl, hg2⟩; have hg2' := Lib.hid hg2; clear hg2))
            go_roundw
            case rel => exact ⟨b, q1, r1, rfl, by congr 1, by omega, HF, HO'.out.keep hg2'.out, HP'.out.keep hg2'.out, grew_trans HG'.out hg2'.out⟩
            case measure => simp only [intOf]; omega
          · have d1 : decide (r1 < S) = false := decide_eq_false hlt2
            rw [d1] at CL1
            have HQ2 : Hid (LM S V (q1 + 1) (r1 - S) ∧ q1 + 1 ≤ V / S) := by
              have h1 := M1.out
              have h2 := HVB.out
              have h3 : (q1 + 1) * S ≤ V := by rw [Int.add_mul]; omega
              have h4 : q1 + 1 ≤ u := Int.le_of_mul_le_mul_right (a := S) (by omega) (by omega)
              exact ⟨⟨by rw [Int.add_mul]; omega, by omega, by omega, by omega, by omega⟩, (Int.le_ediv_iff_mul_le (by omega)).2 h3⟩
            have CM := fun w => minus_any r1 S w (by omega) (by omega) (wide_in _ (by omega))
            rw [← HSh.out, ← HSl.out] at CM
            generalize hB1 : hi64 (r1 - S) = b1 at *
            generalize hB2 : lo64 (r1 - S) = b2 at *
            generalize hA1 : hi64 r1 = a1 at *
            generalize hA2 : lo64 r1 = a2 at *
            have HB1 := Lib.hid hB1
            have HB2 := Lib.hid hB2
            clear hB1 hB2 hA1 hA2 d1
            go_wp2_with (first
              | (go_at_call 71; ((with_reducible refine (CL1 _).mono ?_); rintro e w2 ⟨rfl, hg2⟩; have k1 := HO'.out.keep hg2; have p1' := k1.c0; have p2' := k1.c1; have k2 := HP'.out.keep hg2; have q1' := k2.c0; have q2' := k2.c1; have q3' := k2.f0; have q4' := k2.f1; have q5' := k2.lt))
              | (go_at_call 91; ((with_reducible refine (CM _).mono ?_); rintro e w3 ⟨rfl, hg3⟩; have k3 := k2.keep hg3; have q1'' := k3.c0; have q2'' := k3.c1; have q3'' := k3.f0; have q4'' := k3.f1; have q5'' := k3.lt)))
            go_roundw
            case rel =>
              refine ⟨r1 - S, q1 + 1, rfl, HQ2.out.1, ((k1.keep hg3).other _ _ (by simp)).other _ _ (by simp), ?_, grew_set (grew_set (grew_trans HG'.out (grew_trans hg2 hg3)) _ (by simp)) _ (by simp)⟩
              rw [HB1.out, HB2.out]; exact k3.set _ _
            case measure => have := HQ2.out.2; simp only [intOf]; omega
    · obtain rfl : b = 0 := by omega
      have HF : Hid (T * y / S = q ∧ T * y % S = r) := by
        obtain ⟨l1, l2, l3, l4, l5⟩ := HL.out
        have e1 : T / 2 ^ 0 = T := by simp
        rw [e1] at l1
        exact (Int.ediv_emod_unique (by omega)).2 ⟨by rw [Int.mul_comm S q]; omega, l2, l3⟩
      have q1 := HP.out.c0
      have q2 := HP.out.c1
      have q3 := HP.out.f0
      have q4 := HP.out.f1
      have q5 := HP.out.lt
      generalize hA1 : hi64 r = a1 at *
      generalize hA2 : lo64 r = a2 at *
      have HA1 := Lib.hid hA1.symm
      have HA2 := Lib.hid hA2.symm
      clear hA1 hA2
      have HR2 : Hid (Own2 ((wr.setCell ⟨w.heap.size + 1, 0, none⟩ (.int .i64 a1)).setCell ⟨w.heap.size + 1, 1, none⟩ (.int .u64 a2)).drew (w.heap.size + 1) (.int .i64 a1) (.int .u64 a2)) := (HP.out.set _ _).keep (grew_drew (grew_refl _))
      have HG2 : Hid (Grew w ((wr.setCell ⟨w.heap.size + 1, 0, none⟩ (.int .i64 a1)).setCell ⟨w.heap.size + 1, 1, none⟩ (.int .u64 a2)).drew) := grew_drew (grew_set (grew_set HG.out _ (by simp)) _ (by simp))
      go_wp2_with fail
      go_big_region
      all_goals
        clear q1 q2 q3 q4 q5
        go_wp2
        exact bodyPost_ret (v := .tuple #[.int .i64 q, .agg #[.int .i64 a1, .int .u64 a2]]) (by simp [results, Tryz.results66, go_sem, HR2.out.c0, HR2.out.c1]) rfl ⟨by rw [HF.out.1, HF.out.2, HA1.out, HA2.out], HG2.out⟩
end Go.Proofs.YtahioajpmlochaaGreat.NumK
namespace Go.Proofs.YtahioajpmlochaaGreat.NumK
open Go.RowKit

theorem div_le_self {T y S : Int} (hT : 0 ≤ T) (hy : 0 ≤ y) (hyS : y ≤ S) : 0 ≤ T * y / S ∧ T * y / S ≤ T := by
  have h1 : 0 ≤ T * y := Int.mul_nonneg hT hy
  refine ⟨Int.ediv_nonneg h1 (by omega), ?_⟩
  rcases Int.lt_or_eq_of_le (show 0 ≤ S by omega) with c | c
  · exact Int.ediv_le_of_le_mul c (Int.mul_le_mul_of_nonneg_left hyS hT)
  · rw [← c, Int.ediv_zero]; exact hT

theorem own_two {w1 w2 : World} {v0 v1 u0 u1 : Value} {t : TypeId} (h : Grew ((w1.alloc (.cells #[v0, v1] t)).alloc (.cells #[u0, u1] t)) w2) : Own2 w2 (w1.heap.size + 1) u0 u1 ∧ Grew w1 w2 :=
  ⟨(Own2.new _ _ _ _ _ (by simp)).keep h, grew_trans (grew_al (grew_al (grew_refl _) _) _) h⟩

set_option maxRecDepth 100000 in
set_option maxHeartbeats 1000000 in
theorem portion_any (T y S : Int) (w : World) (hT : 0 ≤ T) (hT2 : T ≤ 4611686018427387904) (hy : 0 ≤ y) (hy2 : y ≤ 4611686018427387904) (hyS : y ≤ S) (hS2 : S ≤ 4722366482869645213696) (hz : S = 0 → T = 0) :
    Calls Tryz.prog 38 #[.int .i64 T, .int .i64 y, .agg #[.int .i64 (hi64 S), .int .u64 (lo64 S)]] w fun e w' =>
      e = .returned (.tuple #[.int .i64 (T * y / S), .agg #[.int .i64 (hi64 (T * y % S)), .int .u64 (lo64 (T * y % S))]]) ∧ Grew w w' := by
  have C1 := fun w => wint_any S w
  have hq := div_le_self hT hy hyS
  by_cases hm : isMoney S = true
  · have hm2 := (isMoney_iff S).1 hm
    rw [capV_in hm, capE_in hm] at C1
    have C2 := fun w => wtimes_any T y w (by omega) (by omega)
    have hp : isWide (T * y) = true := by
      obtain ⟨t1, t2, t3⟩ := times_arith T y (by omega) (by omega)
      rw [isWide_iff]
      generalize T * y = p at *
      generalize T.natAbs * y.natAbs = P at *
      omega
    have C3 := fun w => wquo_any (T * y) S w hp (by omega)
    have HV : wqV (T * y) S = T * y / S := by
      unfold wqV
      split
      · exact capV_in ((isMoney_iff _).2 (by omega))
      · have : S = 0 := by omega
        rw [this, Int.ediv_zero]
    have HR : wqR (T * y) S = T * y % S := by
      unfold wqR
      split
      · rfl
      · next h =>
        have : S = 0 := by
          rcases Int.lt_or_eq_of_le (show 0 ≤ S by omega) with c | c
          · exact absurd ⟨c, (isMoney_iff _).2 (by omega)⟩ h
          · exact c.symm
        rw [hz this]; simp
    rw [HV, HR] at C3
    have hr : -9223372036854775808 ≤ T * y % S ∧ T * y % S ≤ 9223372036854775807 := by
      rcases Int.lt_or_eq_of_le (show 0 ≤ S by omega) with c | c
      · have := Int.emod_nonneg (T * y) (show S ≠ 0 by omega)
        have := Int.emod_lt_of_pos (T * y) c
        omega
      · rw [hz c.symm]; simp
    have C4 := fun w => wof_any (T * y % S) w hr
    clear HV HR hp hm hz
    obtain ⟨hq1, hq2⟩ := hq
    generalize wqE (T * y) S = E at *
    generalize T * y / S = q at *
    generalize T * y % S = r at *
    generalize T * y = p at *
    generalize hi64 S = sh at *
    generalize lo64 S = sl at *
    generalize hi64 p = ph at *
    generalize lo64 p = pl at *
    generalize hi64 r = rh at *
    generalize lo64 r = rl at *
    go_enter Tryz.func38, Tryz.ntmps38
    go_wp2_with (first
      | (go_at_call 65; ((with_reducible refine (C1 _).mono ?_); rintro e w1 ⟨rfl, hg1⟩; obtain ⟨o1, g1⟩ := own_two hg1; have O1 := Lib.hid o1; have G1 := Lib.hid g1; clear o1 g1 hg1))
      | (go_at_call 68; ((with_reducible refine (C2 _).mono ?_); rintro e w2 ⟨rfl, hg2⟩; have G2 := Lib.hid hg2; clear hg2))
      | (go_at_call 67; ((with_reducible refine (C3 _).mono ?_); rintro e w3 ⟨rfl, hg3⟩; have G3 := Lib.hid hg3; clear hg3))
      | (go_at_call 64; ((with_reducible refine (C4 _).mono ?_); rintro e w4 ⟨rfl, hg4⟩; have O4 := O1.out.keep (grew_trans G2.out (grew_trans G3.out hg4)); have k1 := O4.c0; have k2 := O4.c1; have k3 := O4.f0; have k4 := O4.f1; have k5 := O4.lt; have OF := O4.set (.int .i64 rh) (.int .u64 rl); have G4 := Lib.hid hg4; clear hg4)))
    exact bodyPost_ret (v := .tuple #[.int .i64 q, .agg #[.int .i64 rh, .int .u64 rl]]) (by simp [results, Tryz.results38, go_sem, OF.c0, OF.c1]) rfl ⟨rfl, grew_set (grew_set (grew_trans G1.out (grew_trans G2.out (grew_trans G3.out G4.out))) _ (by simp)) _ (by simp)⟩
  · simp only [Bool.not_eq_true] at hm
    have hm2 : 4611686018427387904 < S := by
      rcases Int.lt_or_le 4611686018427387904 S with c | c
      · exact c
      · rw [(isMoney_iff S).2 (by omega)] at hm; cases hm
    rw [capV_out hm, capE_out hm] at C1
    have C2 := fun w => longPortion_any T y S w hT hT2 hy hy2 hm2 hS2
    clear hm hz
    obtain ⟨hq1, hq2⟩ := hq
    generalize T * y / S = q at *
    generalize T * y % S = r at *
    have G0 : ∀ w : World, Own2 ((w.alloc (.cells #[.int .i64 (hi64 S), .int .u64 (lo64 S)] 84)).alloc (.cells #[.int .i64 0, .int .u64 0] 84)) w.heap.size (.int .i64 (hi64 S)) (.int .u64 (lo64 S)) := fun w => (Own2.new w _ _ _ _ rfl).keep (grew_alloc _ _ _)
    have G0H := Lib.hid G0
    clear G0
    generalize hi64 S = sh at *
    generalize lo64 S = sl at *
    generalize hi64 r = rh at *
    generalize lo64 r = rl at *
    go_enter Tryz.func38, Tryz.ntmps38
    go_wp2_with (first
      | (go_at_call 65; ((with_reducible refine (C1 _).mono ?_); rintro e w1 ⟨rfl, hg1⟩; have o5 := (G0H.out _).keep hg1; have j1 := o5.c0; have j2 := o5.c1; obtain ⟨o1, g1⟩ := own_two hg1; have O1 := Lib.hid o1; have G1 := Lib.hid g1; clear o1 g1 hg1 o5))
      | (go_at_call 66; ((with_reducible refine (C2 _).mono ?_); rintro e w4 ⟨rfl, hg4⟩; have O4 := O1.out.keep hg4; have k1 := O4.c0; have k2 := O4.c1; have k3 := O4.f0; have k4 := O4.f1; have k5 := O4.lt; have OF := O4.set (.int .i64 rh) (.int .u64 rl); have G4 := Lib.hid hg4; clear hg4)))
    exact bodyPost_ret (v := .tuple #[.int .i64 q, .agg #[.int .i64 rh, .int .u64 rl]]) (by simp [results, Tryz.results38, go_sem, OF.c0, OF.c1]) rfl ⟨rfl, grew_set (grew_set (grew_trans G1.out G4.out) _ (by simp)) _ (by simp)⟩
end Go.Proofs.YtahioajpmlochaaGreat.NumK
