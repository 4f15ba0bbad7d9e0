/- Contracts of package share: longPortion. -/
import Derived.Test.YtkkemmfghjgmeaaShare6
import Derived.Test.YtkkemmfghjgmeaaRow
import Derived.Deep.RegionWith
import Derived.Deep.DeepCutAuto
import Derived.Deep.CutBlock
namespace Go.Proofs.Ytkkemmfghjgmeaa.NumK
open Go.RowKit

/-- What is divided so far: the upper bits of T by w. -/
def LP (T w S : Int) (k : Nat) (q r : Int) : Prop := q * S + r = (T / 2 ^ k) * w ∧ 0 ≤ r ∧ r < S ∧ 0 ≤ q ∧ q ≤ T / 2 ^ k

theorem lp_start (T w S : Int) (k : Nat) (hT : 0 ≤ T) (hk : T < 2 ^ k) (hS : 0 < S) : LP T w S k 0 0 := by
  have : T / 2 ^ k = 0 := Int.ediv_eq_zero_of_lt hT hk
  unfold LP
  rw [this]; simp; omega

theorem mask1 (n : Int) : bits .and .i64 n 1 = n % 2 := by
  have hm : (BitVec.ofInt 64 1).toNat = 2 ^ 1 - 1 := by decide
  have key : (BitVec.ofInt 64 n &&& BitVec.ofInt 64 1).toNat = (n % ((2 ^ 64 : Nat) : Int)).toNat % 2 ^ 1 := by
    rw [BitVec.toNat_and, BitVec.toNat_ofInt, hm, Nat.and_two_pow_sub_one_eq_mod]
  show IntKind.i64.wrap ((BitVec.ofInt 64 n &&& BitVec.ofInt 64 1).toNat : Nat) = n % 2
  rw [key, IntKind.wrap_i64]
  omega

/-- Behind a digit: not yet reduced. -/
def LM (S V : Int) (q r : Int) : Prop := q * S + r = V ∧ 0 ≤ r ∧ r < 4 * S ∧ 0 ≤ q ∧ q ≤ 4611686018427387904

theorem div_pow_succ (T : Int) (k : Nat) : T / 2 ^ (k + 1) = T / 2 ^ k / 2 := by
  rw [Int.pow_succ, Int.ediv_ediv_of_nonneg]
  exact Int.le_of_lt (Int.pow_pos (by omega))

set_option maxRecDepth 100000 in
set_option maxHeartbeats 1000000 in
theorem longPortion_any (T y S : Int) (w : World) (hT : 0 ≤ T) (hT2 : T ≤ 4611686018427387904) (hy : 0 ≤ y) (hy2 : y ≤ 4611686018427387904) (hS : 4611686018427387904 < S) (hS2 : S ≤ 4722366482869645213696) :
    Calls Try.prog 41 #[.int .i64 T, .int .i64 y, .agg #[.int .i64 (hi64 S), .int .u64 (lo64 S)]] w fun e w' =>
      e = .returned (.tuple #[.int .i64 (T * y / S), .agg #[.int .i64 (hi64 (T * y % S)), .int .u64 (lo64 (T * y % S))]]) ∧ Grew w w' := by
  have CL := fun w => bitsLen_any T w hT (by omega)
  have hlen : Lib.bitLen T.toNat ≤ 63 := Lib.bitLen_le _ _ (by omega) (by omega)
  have hgt := bitLen_gt T.toNat T.toNat (Nat.le_refl _) (by omega)
  have HGT : Hid (T < 2 ^ Lib.bitLen T.toNat) := by
    show _ < _
    have : ((2 ^ Lib.bitLen T.toNat : Nat) : Int) = 2 ^ Lib.bitLen T.toNat := by simp
    omega
  have wT : IntKind.u64.wrap T = T := by rw [IntKind.wrap_u64]; omega
  clear hgt
  generalize Lib.bitLen T.toNat = len at *
  generalize hSh : hi64 S = sh at *
  generalize hSl : lo64 S = sl at *
  have HSh := Lib.hid hSh.symm
  have HSl := Lib.hid hSl.symm
  clear hSh hSl
  go_enter Try.func41, Try.ntmps41
  go_wp2_with (go_at_call 52; ((with_reducible refine (CL _).mono ?_); rintro e w' ⟨rfl, rfl⟩))
  have HO : Hid (Own2 ((w.alloc (.cells #[.int .i64 sh, .int .u64 sl] 38)).alloc (.cells #[.int .i64 0, .int .u64 0] 38)) w.heap.size (.int .i64 sh) (.int .u64 sl)) := (Own2.new w _ _ _ _ rfl).keep (grew_alloc _ _ _)
  have HP : Hid (Own2 ((w.alloc (.cells #[.int .i64 sh, .int .u64 sl] 38)).alloc (.cells #[.int .i64 0, .int .u64 0] 38)) (w.heap.size + 1) (.int .i64 (hi64 0)) (.int .u64 (lo64 0))) := Own2.new _ _ _ _ _ (by simp)
  have HG : Hid (Grew w ((w.alloc (.cells #[.int .i64 sh, .int .u64 sl] 38)).alloc (.cells #[.int .i64 0, .int .u64 0] 38))) := grew_al (grew_al (grew_refl _) _) _
  generalize hw1 : (w.alloc (.cells #[.int .i64 sh, .int .u64 sl] 38)).alloc (.cells #[.int .i64 0, .int .u64 0] 38) = w1 at HO HP HG ⊢
  clear hw1
  go_loopw [6, 8] (fun vq vb wr => ∃ (b : Nat) (q r : Int), vq = .int .i64 q ∧ vb = .int .i64 ((b : Int) - 1) ∧ b ≤ 63 ∧ Hid (LP T y S b q r) ∧ Hid (Own2 wr w.heap.size (.int .i64 sh) (.int .u64 sl)) ∧ Hid (Own2 wr (w.heap.size + 1) (.int .i64 (hi64 r)) (.int .u64 (lo64 r))) ∧ Hid (Grew w wr)) (fun _ vb _ => (intOf vb + 1).toNat)
  case atStart => exact ⟨len, 0, 0, rfl, rfl, hlen, lp_start T y S len hT HGT.out (by omega), HO, HP, HG⟩
  case round =>
    clear HO HP HG
    obtain ⟨b, q, r, rfl, rfl, hb, HL, HO, HP, HG⟩ := hrel
    by_cases hlt : 0 < b
    · obtain ⟨b, rfl⟩ : ∃ c, b = c + 1 := ⟨b - 1, by omega⟩
      have zb : ((b + 1 : Nat) : Int) - 1 = (b : Int) := by omega
      rw [zb]
      have q1 := HP.out.c0
      have q2 := HP.out.c1
      have q3 := HP.out.f0
      have q4 := HP.out.f1
      have q5 := HP.out.lt
      obtain ⟨l1, l2, l3, l4, l5⟩ := HL.out
      have hd := div_pow_succ T b
      have hTb : 0 ≤ T / 2 ^ b := Int.ediv_nonneg hT (Int.le_of_lt (Int.pow_pos (by omega)))
      have hTb2 : T / 2 ^ b ≤ T := Int.ediv_le_self _ hT
      have hmk := mask1 (T / 2 ^ b)
      generalize hu : T / 2 ^ b = u at *
      have HU := Lib.hid hu
      have HD := Lib.hid hd
      clear hd
      have C1 := fun w => plus_any r r w (wide_in _ (by omega)) (wide_in _ (by omega)) (wide_in _ (by omega))
      have lq : q ≤ 2305843009213693952 := by have := HD.out; omega
      have lq2 : Hid (q * 2 ≤ u) := by show _ ≤ _; have := HD.out; omega
      have L1 : Hid ((2 * q) * S + (r + r) + (u % 2) * y = u * y) := by
        show _ = _
        rw [HD.out] at l1
        have e1 : u = u / 2 * 2 + u % 2 := by omega
        have e2 : u * y = (u / 2 * y) * 2 + u % 2 * y := by
          conv => lhs; rw [e1]
          rw [Int.add_mul, Int.mul_right_comm]
        rw [e2, ← l1, Int.mul_assoc]; omega
      clear l1 l5
      go_upto_if 26 with (go_at_call 38; ((with_reducible refine (C1 _).mono ?_); rintro e w2 ⟨rfl, hg2⟩; have k1 := HP.out.keep hg2; have p1 := k1.c0; have p2 := k1.c1; have p3 := k1.f0; have p4 := k1.f1; have p5 := k1.lt))
      have HP2 : Hid (Own2 ((w2.setCell ⟨w.heap.size + 1, 0, none⟩ (.int .i64 (hi64 (r + r)))).setCell ⟨w.heap.size + 1, 1, none⟩ (.int .u64 (lo64 (r + r)))) (w.heap.size + 1) (.int .i64 (hi64 (r + r))) (.int .u64 (lo64 (r + r)))) := k1.set _ _
      have HO2 : Hid (Own2 ((w2.setCell ⟨w.heap.size + 1, 0, none⟩ (.int .i64 (hi64 (r + r)))).setCell ⟨w.heap.size + 1, 1, none⟩ (.int .u64 (lo64 (r + r)))) w.heap.size (.int .i64 sh) (.int .u64 sl)) := ((HO.out.keep hg2).other _ _ (by simp)).other _ _ (by simp)
      have HG2 : Hid (Grew w ((w2.setCell ⟨w.heap.size + 1, 0, none⟩ (.int .i64 (hi64 (r + r)))).setCell ⟨w.heap.size + 1, 1, none⟩ (.int .u64 (lo64 (r + r))))) := grew_set (grew_set (grew_trans HG.out hg2) _ (by simp)) _ (by simp)
      clear k1 p1 p2 p3 p4 p5 q1 q2 q3 q4 q5 HO HP HG hg2 C1
      generalize (w2.setCell ⟨w.heap.size + 1, 0, none⟩ (.int .i64 (hi64 (r + r)))).setCell ⟨w.heap.size + 1, 1, none⟩ (.int .u64 (lo64 (r + r))) = w3 at HP2 HO2 HG2 ⊢
      go_cut [] (fun wx => Hid (∃ r1, LM S (u * y) (2 * q) r1 ∧ Own2 wx w.heap.size (.int .i64 sh) (.int .u64 sl) ∧ Own2 wx (w.heap.size + 1) (.int .i64 (hi64 r1)) (.int .u64 (lo64 r1)) ∧ Grew w wx))
      case first => as_aux_lemma =>
        by_cases c1 : u % 2 = 1
        · have d1 : (u % 2 == 1) = true := by simp [c1]
          have D1 := Lib.hid c1
          have HQ : Hid (LM S (u * y) (2 * q) (r + r + y)) := by
            have := L1.out
            rw [c1] at this
            unfold LM
            exact ⟨by omega, by omega, by omega, by omega, by omega⟩
          have C1 := fun w => wof_any y w (by omega)
          have C2 := fun w => plus_any (r + r) y w (wide_in _ (by omega)) (wide_in _ (by omega)) (wide_in _ (by omega))
          clear c1 L1
          have q1 := HP2.out.c0
          have q2 := HP2.out.c1
          have q3 := HP2.out.f0
          have q4 := HP2.out.f1
          have q5 := HP2.out.lt
          generalize r + r = r2 at *
          generalize r2 + y = r3 at *
          generalize hA1 : hi64 r2 = a1 at *
          generalize hA2 : lo64 r2 = a2 at *
          generalize hB1 : hi64 r3 = b1 at *
          generalize hB2 : lo64 r3 = b2 at *
          have HB1 := Lib.hid hB1
          have HB2 := Lib.hid hB2
          clear hA1 hA2 hB1 hB2
          go_wp2_with fail
          go_region_with (first
            | (go_at_call 39; ((with_reducible refine (C1 _).mono ?_); rintro e w1 ⟨rfl, hg1⟩; have k0 := HP2.out.keep (grew_trans (grew_drew (grew_refl _)) hg1); have q1' := k0.c0; have q2' := k0.c1))
            | (go_at_call 38; ((with_reducible refine (C2 _).mono ?_); rintro e w2 ⟨rfl, hg2⟩; have k1 := HP2.out.keep (grew_trans (grew_trans (grew_drew (grew_refl _)) hg1) hg2); have q1'' := k1.c0; have q2'' := k1.c1; have q3'' := k1.f0; have q4'' := k1.f1; have q5'' := k1.lt)))
          all_goals
            have hgg := grew_trans (grew_trans (grew_drew (grew_refl w3)) hg1) hg2
            have HF : Hid (∃ r1, LM S (u * y) (2 * q) r1 ∧ Own2 ((w2.setCell ⟨w.heap.size + 1, 0, none⟩ (.int .i64 b1)).setCell ⟨w.heap.size + 1, 1, none⟩ (.int .u64 b2)) w.heap.size (.int .i64 sh) (.int .u64 sl) ∧ Own2 ((w2.setCell ⟨w.heap.size + 1, 0, none⟩ (.int .i64 b1)).setCell ⟨w.heap.size + 1, 1, none⟩ (.int .u64 b2)) (w.heap.size + 1) (.int .i64 (hi64 r1)) (.int .u64 (lo64 r1)) ∧ Grew w ((w2.setCell ⟨w.heap.size + 1, 0, none⟩ (.int .i64 b1)).setCell ⟨w.heap.size + 1, 1, none⟩ (.int .u64 b2))) := by
              refine ⟨r3, HQ.out, ((HO2.out.keep hgg).other _ _ (by simp)).other _ _ (by simp), ?_, grew_set (grew_set (grew_trans HG2.out hgg) _ (by simp)) _ (by simp)⟩
              rw [HB1.out, HB2.out]; exact k1.set _ _
            clear q1 q2 q3 q4 q5 q1' q2' q1'' q2'' q3'' q4'' q5'' k0 k1 hgg hg1 hg2
            go_wp2_with fail
            go_meet
            case rel => exact HF
        · have d1 : (u % 2 == 1) = false := by simp; omega
          have c2 : u % 2 = 0 := by omega
          have HQ : Hid (LM S (u * y) (2 * q) (r + r)) := by
            have := L1.out
            rw [c2] at this
            unfold LM
            exact ⟨by omega, by omega, by omega, by omega, by omega⟩
          clear c1 c2 L1
          have HF := Lib.hid (⟨r + r, HQ.out, HO2.out, HP2.out, HG2.out⟩ : ∃ r1, LM S (u * y) (2 * q) r1 ∧ Own2 w3 w.heap.size (.int .i64 sh) (.int .u64 sl) ∧ Own2 w3 (w.heap.size + 1) (.int .i64 (hi64 r1)) (.int .u64 (lo64 r1)) ∧ Grew w w3)
          go_wp2_with fail
          go_meet
          case rel => exact HF
      case rest =>
        rename World => v1
        clear HP2 HO2 HG2
        have hVb : u * y ≤ u * S := Int.mul_le_mul_of_nonneg_left (by omega) hTb
        have HVB := Lib.hid hVb
        clear hVb hmk hu L1
        obtain ⟨V, hV⟩ : ∃ V, V = u * y := ⟨_, rfl⟩
        rw [← hV] at hcut HVB
        have HV := Lib.hid hV
        clear hV
        go_wp2_with fail
        go_loopw [6] (fun v6 wr => Hid (∃ r1 q1, v6 = .int .i64 q1 ∧ LM S V q1 r1 ∧ Own2 wr w.heap.size (.int .i64 sh) (.int .u64 sl) ∧ Own2 wr (w.heap.size + 1) (.int .i64 (hi64 r1)) (.int .u64 (lo64 r1)) ∧ Grew w wr)) (fun v6 _ => (V / S - intOf v6).toNat)
        case atStart =>
          obtain ⟨r1, k1, k2, k3, k4⟩ := hcut.out
          exact ⟨r1, 2 * q, rfl, k1, k2, k3, k4⟩
        case round =>
          clear hcut
          have hr0 := hrel
          clear hrel
          obtain ⟨r1, q1, rfl, HL1, HO, HP, HG⟩ := hr0.out
          have HLM := Lib.hid HL1
          obtain ⟨m1, m2, m3, m4, m5⟩ := HL1
          have M1 := Lib.hid m1
          clear m1 hr0
          have p1 := HO.c0
          have p2 := HO.c1
          have q1c := HP.c0
          have q2c := HP.c1
          have q3c := HP.f0
          have q4c := HP.f1
          have q5c := HP.lt
          have HO' := Lib.hid HO
          have HP' := Lib.hid HP
          have HG' := Lib.hid HG
          clear HO HP HG
          have CL1 := fun w => wless_any r1 S w
          rw [← HSh.out, ← HSl.out] at CL1
          by_cases hlt2 : r1 < S
          · have d1 : decide (r1 < S) = true := decide_eq_true hlt2
            rw [d1] at CL1
            have HF : Hid (LP T y S b q1 r1) := by
              refine ⟨by rw [HU.out, ← HV.out]; exact M1.out, m2, hlt2, m4, ?_⟩
              rw [HU.out]
              have h1 := M1.out
              have h2 := HVB.out
              exact Int.le_of_mul_le_mul_right (a := S) (by omega) (by omega)
            clear d1
            go_wp2_with (go_at_call 46; ((with_reducible refine (CL1 _).mono ?_); rintro e w2 ⟨rfl, hg2⟩; have hg2' := Lib.hid hg2; clear hg2))
            go_roundw
            case rel => exact ⟨b, q1, r1, rfl, by congr 1, by omega, HF, HO'.out.keep hg2'.out, HP'.out.keep hg2'.out, grew_trans HG'.out hg2'.out⟩
            case measure => simp only [intOf]; omega
          · have d1 : decide (r1 < S) = false := decide_eq_false hlt2
            rw [d1] at CL1
            have HQ2 : Hid (LM S V (q1 + 1) (r1 - S) ∧ q1 + 1 ≤ V / S) := by
              have h1 := M1.out
              have h2 := HVB.out
              have h3 : (q1 + 1) * S ≤ V := by rw [Int.add_mul]; omega
              have h4 : q1 + 1 ≤ u := Int.le_of_mul_le_mul_right (a := S) (by omega) (by omega)
              exact ⟨⟨by rw [Int.add_mul]; omega, by omega, by omega, by omega, by omega⟩, (Int.le_ediv_iff_mul_le (by omega)).2 h3⟩
            have CM := fun w => minus_any r1 S w (by omega) (by omega) (wide_in _ (by omega))
            rw [← HSh.out, ← HSl.out] at CM
            generalize hB1 : hi64 (r1 - S) = b1 at *
            generalize hB2 : lo64 (r1 - S) = b2 at *
            generalize hA1 : hi64 r1 = a1 at *
            generalize hA2 : lo64 r1 = a2 at *
            have HB1 := Lib.hid hB1
            have HB2 := Lib.hid hB2
            clear hB1 hB2 hA1 hA2 d1
            go_wp2_with (first
              | (go_at_call 46; ((with_reducible refine (CL1 _).mono ?_); rintro e w2 ⟨rfl, hg2⟩; have k1 := HO'.out.keep hg2; have p1' := k1.c0; have p2' := k1.c1; have k2 := HP'.out.keep hg2; have q1' := k2.c0; have q2' := k2.c1; have q3' := k2.f0; have q4' := k2.f1; have q5' := k2.lt))
              | (go_at_call 53; ((with_reducible refine (CM _).mono ?_); rintro e w3 ⟨rfl, hg3⟩; have k3 := k2.keep hg3; have q1'' := k3.c0; have q2'' := k3.c1; have q3'' := k3.f0; have q4'' := k3.f1; have q5'' := k3.lt)))
            go_roundw
            case rel =>
              refine ⟨r1 - S, q1 + 1, rfl, HQ2.out.1, ((k1.keep hg3).other _ _ (by simp)).other _ _ (by simp), ?_, grew_set (grew_set (grew_trans HG'.out (grew_trans hg2 hg3)) _ (by simp)) _ (by simp)⟩
              rw [HB1.out, HB2.out]; exact k3.set _ _
            case measure => have := HQ2.out.2; simp only [intOf]; omega
    · obtain rfl : b = 0 := by omega
      have HF : Hid (T * y / S = q ∧ T * y % S = r) := by
        obtain ⟨l1, l2, l3, l4, l5⟩ := HL.out
        have e1 : T / 2 ^ 0 = T := by simp
        rw [e1] at l1
        exact (Int.ediv_emod_unique (by omega)).2 ⟨by rw [Int.mul_comm S q]; omega, l2, l3⟩
      have q1 := HP.out.c0
      have q2 := HP.out.c1
      have q3 := HP.out.f0
      have q4 := HP.out.f1
      have q5 := HP.out.lt
      generalize hA1 : hi64 r = a1 at *
      generalize hA2 : lo64 r = a2 at *
      have HA1 := Lib.hid hA1.symm
      have HA2 := Lib.hid hA2.symm
      clear hA1 hA2
      have HR2 : Hid (Own2 ((wr.setCell ⟨w.heap.size + 1, 0, none⟩ (.int .i64 a1)).setCell ⟨w.heap.size + 1, 1, none⟩ (.int .u64 a2)).drew (w.heap.size + 1) (.int .i64 a1) (.int .u64 a2)) := (HP.out.set _ _).keep (grew_drew (grew_refl _))
      have HG2 : Hid (Grew w ((wr.setCell ⟨w.heap.size + 1, 0, none⟩ (.int .i64 a1)).setCell ⟨w.heap.size + 1, 1, none⟩ (.int .u64 a2)).drew) := grew_drew (grew_set (grew_set HG.out _ (by simp)) _ (by simp))
      go_wp2_with fail
      go_big_region
      all_goals
        clear q1 q2 q3 q4 q5
        go_wp2
        exact bodyPost_ret (v := .tuple #[.int .i64 q, .agg #[.int .i64 a1, .int .u64 a2]]) (by simp [results, Try.results41, go_sem, HR2.out.c0, HR2.out.c1]) rfl ⟨by rw [HF.out.1, HF.out.2, HA1.out, HA2.out], HG2.out⟩
end Go.Proofs.Ytkkemmfghjgmeaa.NumK
