/- The reference of frame: Sum, bit by bit. -/
import Derived.Test.YthnhhhfjgbgpgaaRFrame
import Derived.Laws.BitsAllLaws
namespace Go.Proofs.Ythnhhhfjgbgpgaa.NumK
open Go.RowKit

theorem low_bits (T v : Nat) : ((T ^^^ v) % 2 ^^^ v % 2) = T % 2 := by
  have h : (T ^^^ v) % 2 = (T % 2 ^^^ v % 2) := by
    have := Nat.xor_mod_two_pow (a := T) (b := v) (n := 1)
    rwa [Nat.pow_one] at this
  rw [h, Nat.xor_assoc, Nat.xor_self, Nat.xor_zero]
theorem half_xor (T v : Nat) : (T ^^^ v) / 2 = T / 2 ^^^ v / 2 := by
  have := Nat.shiftRight_xor_distrib (a := T) (b := v) (i := 1)
  simpa [Nat.shiftRight_eq_div_pow] using this
theorem half_even {T v : Nat} (h : T % 2 = 0) : (T ^^^ v) / 2 = stp T ^^^ v / 2 := by
  rw [half_xor]; unfold stp; rw [if_neg (by omega), Nat.xor_zero]
theorem half_odd {T v : Nat} (h : T % 2 = 1) : (T ^^^ v) / 2 ^^^ 3988292384 = stp T ^^^ v / 2 := by
  rw [half_xor]; unfold stp; rw [if_pos h, Nat.xor_assoc, Nat.xor_comm (v / 2), ← Nat.xor_assoc]; rfl

set_option maxRecDepth 100000 in
set_option maxHeartbeats 1000000 in
theorem refSum_any (A : Option Addr) (n c : Nat) (l : List UInt8) (w : World) (h : Bys w A n l) (hn : n ≤ 9223372036854775807) :
    Calls Try.prog 64 #[.slice A n c] w fun e w' => e = .returned (.int .u32 (crc l : Int)) ∧ w = w' := by
  have HB := Lib.hid h
  have HL := Lib.hid h.1
  clear h
  go_enter Try.func64, Try.ntmps64
  go_wp2
  go_loop [3, 4] (fun v3 v4 => ∃ k : Nat, v4 = .int .i64 k ∧ k ≤ n ∧ v3 = .int .u32 (crcF 4294967295 (l.take k) : Int)) (fun _ v4 => n - (intOf v4).toNat)
  case atStart => exact ⟨0, rfl, by omega, rfl⟩
  case round =>
    obtain ⟨k, rfl, hk, rfl⟩ := hrel
    have HT := Lib.hid (crcF_lt (show 4294967295 < 4294967296 by omega) (l.take k))
    by_cases hlt : k < n
    · obtain ⟨b, o, rfl, _, hc⟩ := HB.out.2 (by omega)
      have a1 := hc k hlt
      have a3 : (k : Int) < (n : Int) := by omega
      have HS := Lib.hid (take_snocB l k (by rw [HL.out]; exact hlt))
      have hx := (l.getD k 0).toNat_lt
      clear hc
      generalize l.getD k 0 = x at *
      have HN := Lib.hid (crcF_snoc 4294967295 (l.take k) x)
      rw [← HS.out] at HN
      obtain ⟨R, hR⟩ : ∃ R, R = crcF 4294967295 (l.take k) := ⟨_, rfl⟩
      rw [← hR]
      rw [← hR] at HN HT
      have HU : Hid (shB R x = stps 8 (R ^^^ x.toNat)) := rfl
      have HXL : Hid (R ^^^ x.toNat < 4294967296) := Nat.xor_lt_two_pow (n := 32) HT.out (by omega)
      have HXX : Hid (R = (R ^^^ x.toNat) ^^^ x.toNat) := by show _ = _; rw [Nat.xor_assoc, Nat.xor_self, Nat.xor_zero]
      generalize shB R x = Z at *
      generalize R ^^^ x.toNat = X at *
      generalize x.toNat = u at *
      clear hR
      go_wp2
      go_loop [3, 5] (fun v3 v5 => ∃ j : Nat, v5 = .int .i64 j ∧ j ≤ 8 ∧ v3 = .int .u32 ((stps j X ^^^ u / 2 ^ j : Nat) : Int)) (fun _ v5 => 8 - (intOf v5).toNat)
      case atStart => exact ⟨0, rfl, by omega, by rw [Nat.pow_zero, Nat.div_one]; exact congrArg (fun z : Nat => Value.int .u32 (z : Int)) HXX.out⟩
      case round =>
        obtain ⟨j, rfl, hj, rfl⟩ := hrel
        have hT := stps_lt HXL.out j
        by_cases hj8 : j < 8
        · have a4 : (j : Int) < 8 := by omega
          have hv : ((u : Int) / 2 ^ j) = ((u / 2 ^ j : Nat) : Int) := by simp
          have hv2 : u / 2 ^ j < 256 := Nat.lt_of_le_of_lt (Nat.div_le_self _ _) hx
          have hv3 : u / 2 ^ (j + 1) = u / 2 ^ j / 2 := by rw [Nat.pow_succ, Nat.div_div_eq_div_mul]
          have HS1 := Lib.hid (stps_succ j X)
          have HV3 := Lib.hid hv3
          clear hv3
          generalize u / 2 ^ j = v at *
          generalize stps j X = T at *
          have ht : T ^^^ v < 4294967296 := Nat.xor_lt_two_pow (n := 32) hT (by omega)
          have e1 := and_one ht
          have e2 := and_one (show v < 4294967296 by omega)
          have e3 : bits .xor .u32 (((T ^^^ v) % 2 : Nat) : Int) ((v % 2 : Nat) : Int) = ((T % 2 : Nat) : Int) := by
            rw [u32_xor_nat _ _ (by omega) (by omega), low_bits]
          have HE := Lib.hid (@half_even T v)
          have HO := Lib.hid (@half_odd T v)
          generalize T ^^^ v = t at *
          have e4 : bits .xor .u32 ((t : Int) / 2) 3988292384 = ((t / 2 ^^^ 3988292384 : Nat) : Int) := u32_xor_nat (t / 2) 3988292384 (by omega) (by decide)
          generalize hp : t % 2 = p at *
          generalize hq : v % 2 = q at *
          clear hp hq
          have hw : IntKind.u32.wrap (v : Int) = (v : Int) := by rw [IntKind.wrap_u32]; omega
          rcases (show T % 2 = 0 ∨ T % 2 = 1 by omega) with h2 | h2
          · rw [h2] at e3
            have HF : Hid ((t : Int) / 2 = ((stps (j + 1) X ^^^ u / 2 ^ (j + 1) : Nat) : Int)) := by show _ = _; rw [HS1.out, HV3.out, ← HE.out h2]; rfl
            clear HE HO h2
            go_wp2
            go_round
            case rel => exact ⟨j + 1, by go_num, by omega, by rw [← HF.out]⟩
            case measure => simp only [intOf]; omega
          · rw [h2] at e3
            have HF : Hid ((t / 2 ^^^ 3988292384 : Nat) = (stps (j + 1) X ^^^ u / 2 ^ (j + 1) : Nat)) := by show _ = _; rw [HS1.out, HV3.out, ← HO.out h2]
            clear HE HO h2
            generalize (t / 2 ^^^ 3988292384 : Nat) = t' at *
            go_wp2
            go_round
            case rel => exact ⟨j + 1, by go_num, by omega, by rw [← HF.out]⟩
            case measure => simp only [intOf]; omega
        · obtain rfl : j = 8 := by omega
          have HF : Hid (stps 8 X ^^^ u / 2 ^ 8 = crcF 4294967295 (l.take (k + 1))) := by
            show _ = _
            rw [HN.out, HU.out, Nat.div_eq_of_lt (show u < 2 ^ 8 from hx), Nat.xor_zero]
          generalize (stps 8 X ^^^ u / 2 ^ 8) = t at *
          go_wp2
          go_round
          case rel => exact ⟨k + 1, by go_num, by omega, by rw [← HF.out]⟩
          case measure => simp only [intOf]; omega
    · obtain rfl : k = n := by omega
      have HE : Hid (crcF 4294967295 (l.take k) ^^^ 4294967295 = crc l) := by show _ = _; rw [List.take_of_length_le (by rw [HL.out]; omega)]; rfl
      generalize crcF 4294967295 (l.take k) = t at *
      have HX := Lib.hid (xor_ones HT.out)
      go_wp2
      go_ret
      exact ⟨by show Ending.returned (.int .u32 (bits .xor .u32 IntKind.u32.max (t : Int))) = _; rw [HX.out, HE.out], rfl⟩
end Go.Proofs.Ythnhhhfjgbgpgaa.NumK
namespace Go.Proofs.Ythnhhhfjgbgpgaa.NumK
open Go.RowKit

set_option maxRecDepth 100000 in
set_option maxHeartbeats 1000000 in
theorem refHigh_any (N k : Nat) (hk : k ≤ 8) (base : Nat) (w : World) (hb : base ≤ w.heap.size) :
    Calls Try.prog 63 #[.int .u64 (N : Int), .int .i64 (k : Int)] w fun e w' => ∃ v', e = .returned v' ∧ w'.ownsRow base 5 1 v' k ((be N k).map byv) ∧ Below base w w' := by
  go_enter Try.func63, Try.ntmps63
  go_wp2
  go_loopw [5, 6] (fun v5 v6 wr => ∃ (j : Nat) (q : Int), v6 = .int .i64 q ∧ q = (j : Int) - 1 ∧ j ≤ k ∧ Hid (wr.ownsRow base 5 1 v5 (k - j) (((be N k).take (k - j)).map byv)) ∧ Hid (Below base w wr)) (fun _ v6 _ => (intOf v6 + 1).toNat)
  case atStart => exact ⟨k, _, rfl, by go_num, Nat.le_refl _, by rw [Nat.sub_self]; exact World.ownsRow_nil _ _ _ _, Below.refl _ _⟩
  case round =>
    obtain ⟨j, q, rfl, hq, hj, HR, HB⟩ := hrel
    cases j with
    | zero =>
      obtain rfl : q = -1 := by omega
      have HF := HR.out
      rw [Nat.sub_zero, List.take_of_length_le (by rw [be_len]; omega)] at HF
      have HF2 := Lib.hid HF
      clear HF hq
      go_wp2
      go_ret
      exact ⟨_, rfl, HF2.out, HB.out⟩
    | succ i =>
      obtain rfl : q = (i : Int) := by omega
      have e1 := byte_at N i
      have HS := Lib.hid (be_take N k (k - (i + 1)) (by omega))
      rw [show k - 1 - (k - (i + 1)) = i by omega] at HS
      generalize UInt8.ofNat (N / 256 ^ i) = x at *
      clear hq
      go_wp2_with (at_builtin; refine (wpList_append_bytes rfl _ _ rfl base _ (k - (i + 1)) _ rfl (HR.out.alloc _) (some ⟨wr.heap.size, 0, none⟩) 1 1 [x] rfl (by intro h; cases h) (bys1 _ x _ _ rfl) (by omega) (by have := HB.out.size; simp; omega) ?_); intro v' w' hv' hb'; have HV' := Lib.hid hv'; have HB' := Lib.hid hb'; clear hv' hb')
      go_roundw
      case rel => exact ⟨i, _, rfl, by go_num, by omega, by rw [show k - i = k - (i + 1) + 1 by omega, HS.out]; exact HV', (Below.alloc HB.out (Nat.le_trans hb HB.out.size) _).trans HB'.out⟩
      case measure => simp only [intOf]; omega

set_option maxRecDepth 100000 in
set_option maxHeartbeats 1000000 in
theorem refNumber_any (A : Option Addr) (n c : Nat) (l : List UInt8) (w : World) (h : Bys w A n l) (hn : n ≤ 8) :
    Calls Try.prog 73 #[.slice A n c] w fun e w' => e = .returned (.int .u64 (num l : Int)) ∧ w = w' := by
  have HB := Lib.hid h
  have HL := Lib.hid h.1
  clear h
  go_enter Try.func73, Try.ntmps73
  go_wp2
  go_loop [3, 4] (fun v3 v8 => ∃ k : Nat, v8 = .int .i64 k ∧ k ≤ n ∧ v3 = .int .u64 (num (l.take k) : Int)) (fun _ v8 => n - (intOf v8).toNat)
  case atStart => exact ⟨0, rfl, by omega, rfl⟩
  case round =>
    obtain ⟨k, rfl, hk, rfl⟩ := hrel
    by_cases hlt : k < n
    · obtain ⟨b, o, rfl, _, hc⟩ := HB.out.2 (by omega)
      have a1 := hc k hlt
      have a3 : (k : Int) < (n : Int) := by omega
      have hb := num_take_lt l k n HL.out hn hlt
      have HS := Lib.hid (num_snoc l k (by rw [HL.out]; exact hlt))
      have hu := (l.getD k 0).toNat_lt
      clear hc
      generalize l.getD k 0 = x at *
      generalize num (l.take k) = t at *
      generalize x.toNat = u at *
      have e1 := or_byte t u hu hb
      have e2 : IntKind.u64.wrap ((t : Int) * 256) = (t : Int) * 256 := by rw [IntKind.wrap_u64]; omega
      go_wp2
      go_round
      case rel => exact ⟨k + 1, by go_num, by omega, by rw [HS.out]; congr 1⟩
      case measure => simp only [intOf]; omega
    · obtain rfl : k = n := by omega
      have HF : Hid (num (l.take k) = num l) := by show _ = _; rw [List.take_of_length_le (by rw [HL.out]; omega)]
      generalize num (l.take k) = t at *
      go_wp2
      go_ret
      exact ⟨ret_u64 HF.out, rfl⟩

theorem ret_i64 {a b : Int} (h : a = b) : Ending.returned (.int .i64 a) = .returned (.int .i64 b) := by rw [h]
end Go.Proofs.Ythnhhhfjgbgpgaa.NumK
namespace Go.Proofs.Ythnhhhfjgbgpgaa.NumK
open Go.RowKit

set_option maxRecDepth 100000 in
set_option maxHeartbeats 2000000 in
theorem refSeal_any (gen no : Nat) (A : Option Addr) (n c : Nat) (l : List UInt8) (w : World) (h : Bys w A n l) (hA : A = none → c = 0) (hg : gen ≤ 1099511627776) (hno : no ≤ 2147483647) (hn : n ≤ 1000000) :
    Calls Try.prog 52 #[.int .i64 (gen : Int), .int .i64 (no : Int), .slice A n c] w fun e w' => Grew w w' ∧ ∃ v, e = .returned v ∧ w'.ownsRow w.heap.size 5 1 v (n + 21) ((frameB gen no l).map byv) := by
  have HB := Lib.hid h
  have HL := Lib.hid h.1
  have HA := Lib.hid hA
  obtain ⟨G, hG⟩ : ∃ G : Int, G = (gen : Int) := ⟨_, rfl⟩
  obtain ⟨M, hM⟩ : ∃ M : Int, M = (no : Int) := ⟨_, rfl⟩
  have w1 : IntKind.u64.wrap G = (gen : Int) := by rw [IntKind.wrap_u64]; omega
  have w2 : IntKind.u64.wrap M = (no : Int) := by rw [IntKind.wrap_u64]; omega
  have w3 : IntKind.u64.wrap (n : Int) = (n : Int) := by rw [IntKind.wrap_u64]; omega
  have hcr := crc_lt (headB gen no n ++ l)
  have w5 : IntKind.u64.wrap ((crc (headB gen no n ++ l) : Nat) : Int) = ((crc (headB gen no n ++ l) : Nat) : Int) := by rw [IntKind.wrap_u64]; omega
  have HH : Hid (be gen 8 ++ be no 4 ++ be n 4 = headB gen no n) := rfl
  have HF2 : Hid (([195] ++ headB gen no n ++ be (crc (headB gen no n ++ l)) 4) ++ l = frameB gen no l) := by
    show _ = _
    rw [← frame_parts gen no l, h.1]
    simp [headB, List.append_assoc]
  have hll := h.1
  have CH1 : Hid (∀ w0 : World, Calls Try.prog 63 #[.int .u64 (gen : Int), .int .i64 8] w0 fun e w' => ∃ v', e = .returned v' ∧ w'.ownsRow w0.heap.size 5 1 v' 8 ((be gen 8).map byv) ∧ Grew w0 w') := fun w0 => refHigh_any gen 8 (by omega) w0.heap.size w0 (Nat.le_refl _)
  have CH2 : Hid (∀ w0 : World, Calls Try.prog 63 #[.int .u64 (no : Int), .int .i64 4] w0 fun e w' => ∃ v', e = .returned v' ∧ w'.ownsRow w0.heap.size 5 1 v' 4 ((be no 4).map byv) ∧ Grew w0 w') := fun w0 => refHigh_any no 4 (by omega) w0.heap.size w0 (Nat.le_refl _)
  have CH3 : Hid (∀ w0 : World, Calls Try.prog 63 #[.int .u64 (n : Int), .int .i64 4] w0 fun e w' => ∃ v', e = .returned v' ∧ w'.ownsRow w0.heap.size 5 1 v' 4 ((be n 4).map byv) ∧ Grew w0 w') := fun w0 => refHigh_any n 4 (by omega) w0.heap.size w0 (Nat.le_refl _)
  have CH4 : Hid (∀ (z : Nat) (w0 : World), Calls Try.prog 63 #[.int .u64 (z : Int), .int .i64 4] w0 fun e w' => ∃ v', e = .returned v' ∧ w'.ownsRow w0.heap.size 5 1 v' 4 ((be z 4).map byv) ∧ Grew w0 w') := fun z w0 => refHigh_any z 4 (by omega) w0.heap.size w0 (Nat.le_refl _)
  have CS : Hid (∀ A n c l w0, Bys w0 A n l → n ≤ 9223372036854775807 → Calls Try.prog 64 #[.slice A n c] w0 fun e w' => e = .returned (.int .u32 (crc l : Int)) ∧ w0 = w') := fun A n c l w0 => refSum_any A n c l w0
  rw [← hG, ← hM]
  clear h hA hcr hll hG hM hg hno
  generalize headB gen no n = H at *
  obtain ⟨Z, HZ⟩ : ∃ Z, crc (H ++ l) = Z := ⟨_, rfl⟩
  rw [HZ] at w5 HF2
  have HZ := Lib.hid HZ
  generalize be gen 8 = B1 at *
  generalize be no 4 = B2 at *
  generalize be n 4 = B3 at *
  go_enter Try.func52, Try.ntmps52
  go_upto_region 3 with (first
    | (go_at_call 63; ((with_reducible refine (CH1.out _).mono ?_); rintro e x1 ⟨v1, rfl, ho, hg⟩; have HV1 := Lib.hid ho; have HG1 := Lib.hid hg; clear ho hg CH1))
    | (go_at_call 63; ((with_reducible refine (CH2.out _).mono ?_); rintro e x2 ⟨v2, rfl, ho, hg⟩; have HV1' := Lib.hid (ownB_keep HV1.out hg); have HG2 := Lib.hid (grew_trans HG1.out hg); obtain ⟨A2, c2, rfl, hb2, ha2, _, _, _⟩ := bys_own2 ho; have HB2 := Lib.hid hb2; have HA2 := Lib.hid ha2; clear ho hg CH2 hb2 ha2))
    | (go_at_call 63; ((with_reducible refine (CH3.out _).mono ?_); rintro e x4 ⟨v4, rfl, ho, hg⟩; have HV3' := Lib.hid (ownB_keep HV3.out hg); have HG4 := Lib.hid (grew_trans HG3.out hg); obtain ⟨A4, c4, rfl, hb2, ha2, _, _, _⟩ := bys_own2 ho; have HB4 := Lib.hid hb2; have HA4 := Lib.hid ha2; clear ho hg CH3 hb2 ha2))
    | (at_builtin; refine (wpList_append_bytes rfl _ _ rfl w.heap.size v1 8 B1 rfl HV1'.out A2 4 c2 B2 rfl HA2.out HB2.out (by omega) HG2.out.size ?_); intro v3 x3 hv hb; have HV3 := Lib.hid hv; have HG3 := Lib.hid (HG2.out.trans hb); clear hv hb)
    | (at_builtin; refine (wpList_append_bytes rfl _ _ rfl w.heap.size v3 12 (B1 ++ B2) rfl HV3'.out A4 4 c4 B3 rfl HA4.out HB4.out (by omega) HG4.out.size ?_); intro v5 x5 hv hb; rw [HH.out] at hv; obtain ⟨A5, c5, rfl, hb5, ha5, _, _, _⟩ := bys_own2 hv; have HB5 := Lib.hid hb5; have HA5 := Lib.hid ha5; have HG5 := Lib.hid (HG4.out.trans hb); clear hv hb hb5 ha5))
  have HBP5 := Lib.hid (HB.out.keep HG5.out)
  have HBP : Hid (∀ w', Grew x5 w' → Bys w' A n l) := fun w' g => HBP5.out.keep g
  have HBH : Hid (∀ w', Grew x5 w' → Bys w' A5 (12 + 4) H) := fun w' g => HB5.out.keep g
  clear HB2 HB4 HA2 HA4 HV1 HV1' HV3 HV3' HG1 HG2 HG3 HG4
  go_upto_region 4 with (first
    | (at_builtin; refine (wpList_append_bytes rfl _ _ rfl x5.heap.size (.slice none 0 0) 0 [] rfl (World.ownsRow_nil _ _ _ _) A5 (12 + 4) c5 H rfl HA5.out HB5.out (by omega) (Nat.le_refl _) ?_); intro v6 x6 hv hb; have HV6 := Lib.hid hv; have HG6 := Lib.hid hb; clear hv hb)
    | (at_builtin; refine (wpList_append_bytes rfl _ _ rfl x5.heap.size v6 (0 + (12 + 4)) ([] ++ H) rfl HV6.out A n c l rfl HA.out (HBP.out _ HG6.out) (by omega) HG6.out.size ?_); intro v7 x7 hv hb; obtain ⟨A7, c7, rfl, hb7, ha7, _, _, _⟩ := bys_own2 hv; have HB7 := Lib.hid hb7; have HA7 := Lib.hid ha7; have HG7 := Lib.hid (HG6.out.trans hb); clear hv hb hb7 ha7))
  clear HV6 HG6
  have HLIT := Lib.hid (ownB_lit x7 195 5 195 rfl)
  have HGL : Hid (Grew x7 (x7.alloc (.cells #[.int .u8 195] 5))) := grew_alloc _ _ _
  have HBHL := Lib.hid (HBH.out _ (grew_trans HG7.out HGL.out))
  have HSL := Lib.hid HGL.out.size
  go_upto_region 5 with (first
    | (at_builtin; refine (wpList_append_bytes rfl _ _ rfl x7.heap.size _ 1 [195] rfl HLIT.out A5 (12 + 4) c5 H rfl HA5.out HBHL.out (by omega) HSL.out ?_); intro v8 x8 hv hb; have HV8 := Lib.hid hv; have HG8 := Lib.hid (HGL.out.trans hb); clear hv hb))
  have HSUM := Lib.hid (CS.out A7 (0 + (12 + 4) + n) c7 ([] ++ H ++ l) x8 (HB7.out.keep HG8.out) (by omega))
  rw [List.nil_append] at HSUM
  rw [HZ.out] at HSUM
  clear HB7 HA7 HLIT HGL HBHL HSL CS HZ HBH HA5 HB5 HB HBP5
  go_upto_region 6 with (first
    | (go_at_call 64; ((with_reducible refine HSUM.out.mono ?_); rintro e xs ⟨rfl, rfl⟩))
    | (go_at_call 63; ((with_reducible refine (CH4.out Z _).mono ?_); rintro e x9 ⟨v9, rfl, ho, hg⟩; have HV8' := Lib.hid (ownB_keep HV8.out hg); have HG9 := Lib.hid (grew_trans HG8.out hg); obtain ⟨A9, c9, rfl, hb2, ha2, _, _, _⟩ := bys_own2 ho; have HB9 := Lib.hid hb2; have HA9 := Lib.hid ha2; have HS9 := Lib.hid HG9.out.size; clear ho hg CH4 hb2 ha2))
    | (at_builtin; refine (wpList_append_bytes rfl _ _ rfl x7.heap.size v8 (1 + (12 + 4)) ([195] ++ H) rfl HV8'.out A9 4 c9 (be Z 4) rfl HA9.out HB9.out (by omega) HS9.out ?_); intro v10 x10 hv hb; have HV10 := Lib.hid hv; have HG10 := Lib.hid (HG9.out.trans hb); have HBP10 := Lib.hid (HBP.out _ (grew_trans HG7.out HG10.out)); have HS10 := Lib.hid HG10.out.size; clear hv hb))
  go_wp2_with (at_builtin; refine (wpList_append_bytes rfl _ _ rfl x7.heap.size v10 (1 + (12 + 4) + 4) ([195] ++ H ++ be Z 4) rfl HV10.out A n c l rfl HA.out HBP10.out (by omega) HS10.out ?_); intro v11 x11 hv hb; have HV11 := Lib.hid hv; have HG11 := Lib.hid (HG10.out.trans hb); clear hv hb)
  go_ret
  refine ⟨grew_trans HG5.out (grew_trans HG7.out HG11.out), v11, rfl, ?_⟩
  have := ownB_low HV11.out (Nat.le_trans HG5.out.size HG7.out.size)
  rw [HF2.out, show 1 + (12 + 4) + 4 + n = n + 21 by omega] at this
  exact this
end Go.Proofs.Ythnhhhfjgbgpgaa.NumK
