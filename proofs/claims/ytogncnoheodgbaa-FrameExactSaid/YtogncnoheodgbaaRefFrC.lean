/- The reference of frame: Seal. -/
import Derived.Test.YtogncnoheodgbaaRefFrA
import Derived.Test.YtogncnoheodgbaaRefFrB
import Derived.Test.YtogncnoheodgbaaFrameE
namespace Go.Proofs.Ytogncnoheodgbaa.NumK
open Go.RowKit

set_option maxRecDepth 100000 in
set_option maxHeartbeats 2000000 in
theorem refSeal_any (gen no : Nat) (A : Option Addr) (n c : Nat) (l : List UInt8) (w : World) (h : Bys w A n l) (hA : A = none → c = 0) (hg : gen ≤ 1099511627776) (hno : no ≤ 2147483647) (hn : n ≤ 1000000) :
    Calls Try.prog 17 #[.int .i64 (gen : Int), .int .i64 (no : Int), .slice A n c] w fun e w' => Grew w w' ∧ ∃ v, e = .returned v ∧ w'.ownsRow w.heap.size 5 1 v (n + 21) ((frameB gen no l).map byv) := by
  have HB := Lib.hid h
  have HL := Lib.hid h.1
  have HA := Lib.hid hA
  obtain ⟨G, hG⟩ : ∃ G : Int, G = (gen : Int) := ⟨_, rfl⟩
  obtain ⟨M, hM⟩ : ∃ M : Int, M = (no : Int) := ⟨_, rfl⟩
  have w1 : IntKind.u64.wrap G = (gen : Int) := by rw [IntKind.wrap_u64]; omega
  have w2 : IntKind.u64.wrap M = (no : Int) := by rw [IntKind.wrap_u64]; omega
  have w3 : IntKind.u64.wrap (n : Int) = (n : Int) := by rw [IntKind.wrap_u64]; omega
  have hcr := crc_lt (headB gen no n ++ l)
  have w5 : IntKind.u64.wrap ((crc (headB gen no n ++ l) : Nat) : Int) = ((crc (headB gen no n ++ l) : Nat) : Int) := by rw [IntKind.wrap_u64]; omega
  have HH : Hid (be gen 8 ++ be no 4 ++ be n 4 = headB gen no n) := rfl
  have HF2 : Hid (([195] ++ headB gen no n ++ be (crc (headB gen no n ++ l)) 4) ++ l = frameB gen no l) := by
    show _ = _
    rw [← frame_parts gen no l, h.1]
    simp [headB, List.append_assoc]
  have hll := h.1
  have CH1 : Hid (∀ w0 : World, Calls Try.prog 23 #[.int .u64 (gen : Int), .int .i64 8] w0 fun e w' => ∃ v', e = .returned v' ∧ w'.ownsRow w0.heap.size 5 1 v' 8 ((be gen 8).map byv) ∧ Grew w0 w') := fun w0 => refHigh_any gen 8 (by omega) w0.heap.size w0 (Nat.le_refl _)
  have CH2 : Hid (∀ w0 : World, Calls Try.prog 23 #[.int .u64 (no : Int), .int .i64 4] w0 fun e w' => ∃ v', e = .returned v' ∧ w'.ownsRow w0.heap.size 5 1 v' 4 ((be no 4).map byv) ∧ Grew w0 w') := fun w0 => refHigh_any no 4 (by omega) w0.heap.size w0 (Nat.le_refl _)
  have CH3 : Hid (∀ w0 : World, Calls Try.prog 23 #[.int .u64 (n : Int), .int .i64 4] w0 fun e w' => ∃ v', e = .returned v' ∧ w'.ownsRow w0.heap.size 5 1 v' 4 ((be n 4).map byv) ∧ Grew w0 w') := fun w0 => refHigh_any n 4 (by omega) w0.heap.size w0 (Nat.le_refl _)
  have CH4 : Hid (∀ (z : Nat) (w0 : World), Calls Try.prog 23 #[.int .u64 (z : Int), .int .i64 4] w0 fun e w' => ∃ v', e = .returned v' ∧ w'.ownsRow w0.heap.size 5 1 v' 4 ((be z 4).map byv) ∧ Grew w0 w') := fun z w0 => refHigh_any z 4 (by omega) w0.heap.size w0 (Nat.le_refl _)
  have CS : Hid (∀ A n c l w0, Bys w0 A n l → n ≤ 9223372036854775807 → Calls Try.prog 11 #[.slice A n c] w0 fun e w' => e = .returned (.int .u32 (crc l : Int)) ∧ w0 = w') := fun A n c l w0 => refSum_any A n c l w0
  rw [← hG, ← hM]
  clear h hA hcr hll hG hM hg hno
  generalize headB gen no n = H at *
  obtain ⟨Z, HZ⟩ : ∃ Z, crc (H ++ l) = Z := ⟨_, rfl⟩
  rw [HZ] at w5 HF2
  have HZ := Lib.hid HZ
  generalize be gen 8 = B1 at *
  generalize be no 4 = B2 at *
  generalize be n 4 = B3 at *
  go_enter Try.func17, Try.ntmps17
  go_upto_region 3 with (first
    | (go_at_call 23; ((with_reducible refine (CH1.out _).mono ?_); rintro e x1 ⟨v1, rfl, ho, hg⟩; have HV1 := Lib.hid ho; have HG1 := Lib.hid hg; clear ho hg CH1))
    | (go_at_call 23; ((with_reducible refine (CH2.out _).mono ?_); rintro e x2 ⟨v2, rfl, ho, hg⟩; have HV1' := Lib.hid (ownB_keep HV1.out hg); have HG2 := Lib.hid (grew_trans HG1.out hg); obtain ⟨A2, c2, rfl, hb2, ha2, _, _, _⟩ := bys_own2 ho; have HB2 := Lib.hid hb2; have HA2 := Lib.hid ha2; clear ho hg CH2 hb2 ha2))
    | (go_at_call 23; ((with_reducible refine (CH3.out _).mono ?_); rintro e x4 ⟨v4, rfl, ho, hg⟩; have HV3' := Lib.hid (ownB_keep HV3.out hg); have HG4 := Lib.hid (grew_trans HG3.out hg); obtain ⟨A4, c4, rfl, hb2, ha2, _, _, _⟩ := bys_own2 ho; have HB4 := Lib.hid hb2; have HA4 := Lib.hid ha2; clear ho hg CH3 hb2 ha2))
    | (at_builtin; refine (wpList_append_bytes rfl _ _ rfl w.heap.size v1 8 B1 rfl HV1'.out A2 4 c2 B2 rfl HA2.out HB2.out (by omega) HG2.out.size ?_); intro v3 x3 hv hb; have HV3 := Lib.hid hv; have HG3 := Lib.hid (HG2.out.trans hb); clear hv hb)
    | (at_builtin; refine (wpList_append_bytes rfl _ _ rfl w.heap.size v3 12 (B1 ++ B2) rfl HV3'.out A4 4 c4 B3 rfl HA4.out HB4.out (by omega) HG4.out.size ?_); intro v5 x5 hv hb; rw [HH.out] at hv; obtain ⟨A5, c5, rfl, hb5, ha5, _, _, _⟩ := bys_own2 hv; have HB5 := Lib.hid hb5; have HA5 := Lib.hid ha5; have HG5 := Lib.hid (HG4.out.trans hb); clear hv hb hb5 ha5))
  have HBP5 := Lib.hid (HB.out.keep HG5.out)
  have HBP : Hid (∀ w', Grew x5 w' → Bys w' A n l) := fun w' g => HBP5.out.keep g
  have HBH : Hid (∀ w', Grew x5 w' → Bys w' A5 (12 + 4) H) := fun w' g => HB5.out.keep g
  clear HB2 HB4 HA2 HA4 HV1 HV1' HV3 HV3' HG1 HG2 HG3 HG4
  go_upto_region 4 with (first
    | (at_builtin; refine (wpList_append_bytes rfl _ _ rfl x5.heap.size (.slice none 0 0) 0 [] rfl (World.ownsRow_nil _ _ _ _) A5 (12 + 4) c5 H rfl HA5.out HB5.out (by omega) (Nat.le_refl _) ?_); intro v6 x6 hv hb; have HV6 := Lib.hid hv; have HG6 := Lib.hid hb; clear hv hb)
    | (at_builtin; refine (wpList_append_bytes rfl _ _ rfl x5.heap.size v6 (0 + (12 + 4)) ([] ++ H) rfl HV6.out A n c l rfl HA.out (HBP.out _ HG6.out) (by omega) HG6.out.size ?_); intro v7 x7 hv hb; obtain ⟨A7, c7, rfl, hb7, ha7, _, _, _⟩ := bys_own2 hv; have HB7 := Lib.hid hb7; have HA7 := Lib.hid ha7; have HG7 := Lib.hid (HG6.out.trans hb); clear hv hb hb7 ha7))
  clear HV6 HG6
  have HLIT := Lib.hid (ownB_lit x7 195 5 195 rfl)
  have HGL : Hid (Grew x7 (x7.alloc (.cells #[.int .u8 195] 5))) := grew_alloc _ _ _
  have HBHL := Lib.hid (HBH.out _ (grew_trans HG7.out HGL.out))
  have HSL := Lib.hid HGL.out.size
  go_upto_region 5 with (first
    | (at_builtin; refine (wpList_append_bytes rfl _ _ rfl x7.heap.size _ 1 [195] rfl HLIT.out A5 (12 + 4) c5 H rfl HA5.out HBHL.out (by omega) HSL.out ?_); intro v8 x8 hv hb; have HV8 := Lib.hid hv; have HG8 := Lib.hid (HGL.out.trans hb); clear hv hb))
  have HSUM := Lib.hid (CS.out A7 (0 + (12 + 4) + n) c7 ([] ++ H ++ l) x8 (HB7.out.keep HG8.out) (by omega))
  rw [List.nil_append] at HSUM
  rw [HZ.out] at HSUM
  clear HB7 HA7 HLIT HGL HBHL HSL CS HZ HBH HA5 HB5 HB HBP5
  go_upto_region 6 with (first
    | (go_at_call 11; ((with_reducible refine HSUM.out.mono ?_); rintro e xs ⟨rfl, rfl⟩))
    | (go_at_call 23; ((with_reducible refine (CH4.out Z _).mono ?_); rintro e x9 ⟨v9, rfl, ho, hg⟩; have HV8' := Lib.hid (ownB_keep HV8.out hg); have HG9 := Lib.hid (grew_trans HG8.out hg); obtain ⟨A9, c9, rfl, hb2, ha2, _, _, _⟩ := bys_own2 ho; have HB9 := Lib.hid hb2; have HA9 := Lib.hid ha2; have HS9 := Lib.hid HG9.out.size; clear ho hg CH4 hb2 ha2))
    | (at_builtin; refine (wpList_append_bytes rfl _ _ rfl x7.heap.size v8 (1 + (12 + 4)) ([195] ++ H) rfl HV8'.out A9 4 c9 (be Z 4) rfl HA9.out HB9.out (by omega) HS9.out ?_); intro v10 x10 hv hb; have HV10 := Lib.hid hv; have HG10 := Lib.hid (HG9.out.trans hb); have HBP10 := Lib.hid (HBP.out _ (grew_trans HG7.out HG10.out)); have HS10 := Lib.hid HG10.out.size; clear hv hb))
  go_wp2_with (at_builtin; refine (wpList_append_bytes rfl _ _ rfl x7.heap.size v10 (1 + (12 + 4) + 4) ([195] ++ H ++ be Z 4) rfl HV10.out A n c l rfl HA.out HBP10.out (by omega) HS10.out ?_); intro v11 x11 hv hb; have HV11 := Lib.hid hv; have HG11 := Lib.hid (HG10.out.trans hb); clear hv hb)
  go_ret
  refine ⟨grew_trans HG5.out (grew_trans HG7.out HG11.out), v11, rfl, ?_⟩
  have := ownB_low HV11.out (Nat.le_trans HG5.out.size HG7.out.size)
  rw [HF2.out, show 1 + (12 + 4) + 4 + n = n + 21 by omega] at this
  exact this
end Go.Proofs.Ytogncnoheodgbaa.NumK
