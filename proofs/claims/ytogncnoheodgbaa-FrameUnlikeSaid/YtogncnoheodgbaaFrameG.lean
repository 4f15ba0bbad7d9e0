/- frame: Seal of what may be sealed. -/
import Derived.Test.YtogncnoheodgbaaFrameF
namespace Go.Proofs.Ytogncnoheodgbaa.NumK
open Go.RowKit

set_option maxRecDepth 100000 in
set_option maxHeartbeats 2000000 in
theorem seal_ok (gen no : Nat) (A : Option Addr) (n c : Nat) (l : List UInt8) (w : World) (h : Bys w A n l) (hA : A = none → c = 0) (hc : n ≤ c) (hg : gen ≤ 1099511627776) (hno : no ≤ 2147483647) (hn : n ≤ 65536) :
    Calls Try.prog 14 #[.int .i64 (gen : Int), .int .i64 (no : Int), .slice A n c] w fun e w' => Grew w w' ∧ ∃ v, e = .returned (.tuple #[v, .int .i64 0]) ∧ w'.ownsRow w.heap.size 5 1 v (n + 21) ((frameB gen no l).map byv) := by
  have HB := Lib.hid h
  have HL := Lib.hid h.1
  have HA := Lib.hid hA
  obtain ⟨K, hK⟩ : ∃ K : Nat, K = n + 21 := ⟨_, rfl⟩
  have hmk := fun w => run_u8cap w K (by omega)
  obtain ⟨G, hG⟩ : ∃ G : Int, G = (gen : Int) := ⟨_, rfl⟩
  obtain ⟨M, hM⟩ : ∃ M : Int, M = (no : Int) := ⟨_, rfl⟩
  have d1 : ¬ G < 0 := by omega
  have d2 : ¬ (1099511627776 : Int) < G := by omega
  have d3 : ¬ M < 0 := by omega
  have d4 : ¬ (2147483647 : Int) < M := by omega
  have d5 : ¬ (65536 : Int) < (n : Int) := by omega
  have w1 : IntKind.u64.wrap G = (gen : Int) := by rw [IntKind.wrap_u64]; omega
  have w2 : IntKind.u64.wrap M = (no : Int) := by rw [IntKind.wrap_u64]; omega
  have w3 : IntKind.u64.wrap (n : Int) = (n : Int) := by rw [IntKind.wrap_u64]; omega
  have w4 : IntKind.i64.wrap (21 + (n : Int)) = (K : Int) := by rw [IntKind.wrap_i64]; omega
  have HK := Lib.hid hK
  have hK0 : K ≤ 70000 := by omega
  rw [← hK, ← hG, ← hM]
  clear hK hG hM
  have C1 : Hid (∀ v w0, w0.ownsRow w.heap.size 5 1 v 1 (([195] : List UInt8).map byv) → w.heap.size ≤ w0.heap.size → Calls Try.prog 22 #[v, .int .i64 9, .int .u64 (gen : Int)] w0 fun e w' => ∃ v', e = .returned v' ∧ w'.ownsRow w.heap.size 5 1 v' 9 (([195] ++ be gen 8).map byv) ∧ Below w.heap.size w0 w') :=
    fun v w0 ho hb => appendNumber_any gen 8 (by omega) w.heap.size v 1 [195] w0 ho hb (by omega)
  have C2 : Hid (∀ v w0, w0.ownsRow w.heap.size 5 1 v 9 (([195] ++ be gen 8).map byv) → w.heap.size ≤ w0.heap.size → Calls Try.prog 22 #[v, .int .i64 13, .int .u64 (no : Int)] w0 fun e w' => ∃ v', e = .returned v' ∧ w'.ownsRow w.heap.size 5 1 v' 13 (([195] ++ be gen 8 ++ be no 4).map byv) ∧ Below w.heap.size w0 w') :=
    fun v w0 ho hb => appendNumber_any no 4 (by omega) w.heap.size v 9 _ w0 ho hb (by omega)
  have C3 : Hid (∀ v w0, w0.ownsRow w.heap.size 5 1 v 13 (([195] ++ be gen 8 ++ be no 4).map byv) → w.heap.size ≤ w0.heap.size → Calls Try.prog 22 #[v, .int .i64 17, .int .u64 (n : Int)] w0 fun e w' => ∃ v', e = .returned v' ∧ w'.ownsRow w.heap.size 5 1 v' 17 (([195] ++ be gen 8 ++ be no 4 ++ be n 4).map byv) ∧ Below w.heap.size w0 w') :=
    fun v w0 ho hb => appendNumber_any n 4 (by omega) w.heap.size v 13 _ w0 ho hb (by omega)
  have C4 : Hid (∀ z v w0, w0.ownsRow w.heap.size 5 1 v 17 (([195] ++ be gen 8 ++ be no 4 ++ be n 4).map byv) → w.heap.size ≤ w0.heap.size → Calls Try.prog 22 #[v, .int .i64 21, .int .u64 ((z : Nat) : Int)] w0 fun e w' => ∃ v', e = .returned v' ∧ w'.ownsRow w.heap.size 5 1 v' 21 (([195] ++ be gen 8 ++ be no 4 ++ be n 4 ++ be z 4).map byv) ∧ Below w.heap.size w0 w') :=
    fun z v w0 ho hb => appendNumber_any z 4 (by omega) w.heap.size v 17 _ w0 ho hb (by omega)
  have CS : Hid (∀ b o c2 w0, Grew w w0 → Bys w0 (some ⟨b, o, none⟩) 17 ([195] ++ be gen 8 ++ be no 4 ++ be n 4) → 17 ≤ c2 → Calls Try.prog 10 #[.slice (some ⟨w0.heap.size, 0, none⟩) 2 2] (w0.alloc (.cells #[.slice (some ⟨b, o + 1, none⟩) 16 (c2 - 1), .slice A n c] 23)) fun e w' => e = .returned (.int .u32 (crc (headB gen no n ++ l) : Int)) ∧ w0.alloc (.cells #[.slice (some ⟨b, o + 1, none⟩) 16 (c2 - 1), .slice A n c] 23) = w') := by
    intro b o c2 w0 hG hb2 hc2
    have h1 := hb2.drop (k := 1) (by omega)
    rw [head_drop] at h1
    have := sum_any (some ⟨w0.heap.size, 0, none⟩) 2 2 [headB gen no n, l] _ (rows2 (A1 := some ⟨b, o + 1, none⟩) (A2 := A) (n1 := 16) (c1 := c2 - 1) (n2 := n) (c2 := c) 23 h1 (fun h => by cases h) (by omega) (by omega) (h.keep hG) hA hc (by omega)) (by omega)
    simpa using this
  have hcr := crc_lt (headB gen no n ++ l)
  have w5 : IntKind.u64.wrap ((crc (headB gen no n ++ l) : Nat) : Int) = ((crc (headB gen no n ++ l) : Nat) : Int) := by rw [IntKind.wrap_u64]; omega
  have HF2 : Hid (([195] ++ be gen 8 ++ be no 4 ++ be n 4 ++ be (crc (headB gen no n ++ l)) 4) ++ l = frameB gen no l) := by have := frame_parts gen no l; rwa [h.1] at this
  clear h hA hg hno hn hcr
  generalize crc (headB gen no n ++ l) = Z at *
  generalize be gen 8 = B1 at *
  generalize be no 4 = B2 at *
  generalize be n 4 = B3 at *
  go_enter Try.func14, Try.ntmps14
  have hsz : (madeCells #[.int .u8 0] K).size = K * 1 := by rw [size_madeCells]; omega
  go_upto_region 6 with (fail)
  have HO0 : Hid ((w.alloc (.cells (madeCells #[.int .u8 0] K) 5)).ownsRow w.heap.size 5 1 (.slice (some ⟨w.heap.size, 0, none⟩) 0 K) 0 (([] : List UInt8).map byv)) := World.ownsRow_made w _ K (Nat.le_refl _) (by unfold maxLen; omega) hsz
  have HG0 : Hid (Grew w (w.alloc (.cells (madeCells #[.int .u8 0] K) 5))) := grew_alloc _ _ _
  clear hsz hmk
  generalize w.alloc (.cells (madeCells #[.int .u8 0] K) 5) = w0 at *
  go_upto_region 7 with (at_builtin; refine (wpList_append_bytes rfl _ _ rfl w.heap.size _ 0 [] rfl (HO0.out.alloc _) (some ⟨w0.heap.size, 0, none⟩) 1 1 [195] rfl (by intro h; cases h) (bys1 _ 195 _ _ rfl) (by omega) (by have := HG0.out.size; simp; omega) ?_); intro v1 wx1 hv' hb'; have HV1 := Lib.hid hv'; have HG1 := Lib.hid ((Below.alloc HG0.out HG0.out.size _).trans hb'); clear hv' hb')
  go_upto_region 10 with (first
    | (go_at_call 22; ((with_reducible refine (C1.out _ _ HV1.out HG1.out.size).mono ?_); rintro e wx2 ⟨v2, rfl, ho, hb⟩; have HV2 := Lib.hid ho; have HG2 := Lib.hid (HG1.out.trans hb); clear ho hb C1))
    | (go_at_call 22; ((with_reducible refine (C2.out _ _ HV2.out HG2.out.size).mono ?_); rintro e wx3 ⟨v3, rfl, ho, hb⟩; have HV3 := Lib.hid ho; have HG3 := Lib.hid (HG2.out.trans hb); clear ho hb C2))
    | (go_at_call 22; ((with_reducible refine (C3.out _ _ HV3.out HG3.out.size).mono ?_); rintro e wx4 ⟨v4, rfl, ho, hb⟩; have HV4 := Lib.hid ho; have HG4 := Lib.hid (HG3.out.trans hb); clear ho hb C3)))
  obtain ⟨A4, c4, rfl, hb4, hA4, hc4, hm4, _⟩ := bys_own2 HV4.out
  cases A4 with
  | none => have := hA4 rfl; omega
  | some ad =>
  obtain ⟨b, o, e, _, _⟩ := hb4.2 (by omega)
  cases e
  have HCS := Lib.hid (CS.out b o c4 wx4 HG4.out hb4 hc4)
  have HB4 := Lib.hid hb4
  clear hA4 hb4 CS
  have i1 : (1 : Int) ≤ (17 : Int) := by omega
  have hne : ¬ c4 = 1 := by omega
  have HO5 := Lib.hid (HV4.out.alloc (.cells #[.slice (some ⟨b, o + 1, none⟩) 16 (c4 - 1), .slice A n c] 23))
  have HG5 : Hid (Grew w (wx4.alloc (.cells #[.slice (some ⟨b, o + 1, none⟩) 16 (c4 - 1), .slice A n c] 23))) := Below.alloc HG4.out HG4.out.size _
  have HS5 := Lib.hid HG5.out.size
  go_upto_region 11 with (first
    | (go_at_call 10; ((with_reducible refine HCS.out.mono ?_); rintro e wx5 ⟨rfl, rfl⟩))
    | (go_at_call 22; ((with_reducible refine (C4.out Z _ _ HO5.out HS5.out).mono ?_); rintro e wx6 ⟨v6, rfl, ho, hb⟩; have HV6 := Lib.hid ho; have HG6 := Lib.hid (HG5.out.trans hb); clear ho hb C4)))
  clear HO5 HG5 HS5 HV4 HG4 HB4 HCS
  go_wp2_with (at_builtin; refine (wpList_append_bytes rfl _ _ rfl w.heap.size _ 21 _ rfl HV6.out A n c l rfl HA.out (HB.out.keep HG6.out) (by have := HK.out; omega) HG6.out.size ?_); intro v7 wx7 hv' hb'; have HV7 := Lib.hid hv'; have HG7 := Lib.hid (HG6.out.trans hb'); clear hv' hb')
  go_ret2
  exact ⟨HG7.out, v7, rfl, by have := HV7.out; rw [HF2.out, Nat.add_comm 21 n, ← HK.out] at this; exact this⟩

theorem seal_any (gen no : Int) (A : Option Addr) (n c : Nat) (l : List UInt8) (w : World) (h : Bys w A n l) (hA : A = none → c = 0) (hc : n ≤ c) :
    Calls Try.prog 14 #[.int .i64 gen, .int .i64 no, .slice A n c] w (SealPost gen no l w) := by
  have hl := h.1
  by_cases h1 : gen < 0 ∨ 1099511627776 < gen ∨ no < 0 ∨ 2147483647 < no
  · have hm : mayI gen no l.length = 3 := by unfold mayI; rw [if_pos h1]
    exact (seal_arg gen no _ w h1).mono fun e w' ⟨he, hw⟩ => ⟨hw ▸ grew_refl w, Or.inl ⟨by rw [hm]; decide, by rw [hm]; exact he⟩⟩
  · by_cases h2 : 65536 < n
    · have hm : mayI gen no l.length = 5 := by unfold mayI; rw [if_neg h1, if_pos (by omega)]
      exact (seal_long gen no A n c w (by omega) (by omega) (by omega) (by omega) h2).mono fun e w' ⟨he, hw⟩ => ⟨hw ▸ grew_refl w, Or.inl ⟨by rw [hm]; decide, by rw [hm]; exact he⟩⟩
    · have hm : mayI gen no l.length = 0 := by unfold mayI; rw [if_neg h1, if_neg (by omega)]
      have := seal_ok gen.toNat no.toNat A n c l w h hA hc (by omega) (by omega) (by omega)
      rw [Int.toNat_of_nonneg (by omega), Int.toNat_of_nonneg (by omega)] at this
      exact this.mono fun e w' ⟨hg, v, he, ho⟩ => ⟨hg, Or.inr ⟨hm, v, he, by rw [hl]; exact ho⟩⟩
end Go.Proofs.Ytogncnoheodgbaa.NumK
