/- The law EntryTurns. -/
import Derived.Test.YtmbhkeppikaeaaaEnForm
namespace Go.Proofs.Ytmbhkeppikaeaaa.NumK
open Go.RowKit

set_option maxRecDepth 100000 in
set_option maxHeartbeats 4000000 in
theorem entryTurns_walk (A : Option Addr) (n c : Nat) (l : List Lg) (w : World) (h : RowE enLg w A n l) (hA : A = none → c = 0) (hn : n ≤ 9223372036854775807) :
    Calls Try.prog 6 #[.slice A n c] w fun e w' => e = .returned (.bool true) ∧ Grew w w' := by
  by_cases hbig : (300 : Int) < (n : Int)
  · go_enter Try.func6, Try.ntmps6
    go_wp2
    go_ret
    exact ⟨rfl, grew_refl _⟩
  · have HI := Lib.hid h
    have HL := Lib.hid h.len
    have HN : n ≤ 300 := by omega
    have CJ := fun w (h : RowE enLg w A n l) => join_form A n c l w h (by omega)
    have WK := fun w => wakes09_any w
    by_cases he : joinE l = 0
    · have CT := fun w (h : RowE enLg w A n l) => (twinLegs_any A n c l w h hA (by omega))
      have CU := fun w (h : RowE enLg w A n l) => turn_any A n c l w h (by omega)
      have htt := turn_turn l (join_zero he).1
      have CU2 := fun A1 w (h : RowE enLg w (some A1) n (turnL l)) => turn_any (some A1) n n (turnL l) w h (by omega)
      rw [htt] at CU2
      have CL := fun A1 w (h : RowE enLg w (some A1) n l) (h2 : RowE enLg w A n l) => legs_yes (some A1) A n n n c l w h h2 (by omega)
      have hjt := join_turn he
      have CJ2 := fun A1 c1 w (h : RowE enLg w A1 (n + n) (l ++ turnL l)) => join_form A1 (n + n) c1 (l ++ turnL l) w h (by omega)
      rw [hjt.1, hjt.2] at CJ2
      rw [he] at CJ
      have HLT : Hid ((l ++ turnL l).length = n + n) := by show _ = _; rw [List.length_append, turnL_len, HL.out]
      have HLL : Hid (l.length + n ≤ 600) := by show _ ≤ _; rw [HL.out]; omega
      clear he htt hjt h hA hn
      generalize turnL l = TL at *
      generalize joinL l = JL at *
      generalize JL.length = NJ at *
      go_enter Try.func6, Try.ntmps6
      go_wp2_with (first
        | (go_at_call 12; ((with_reducible refine (CJ _ HI.out).mono ?_); rintro e w1 ⟨A1, c1, rfl, hm, hg⟩; have G1 := Lib.hid hg; clear hm hg))
        | (go_at_call 17; ((with_reducible refine (CU _ (HI.out.keep G1.out)).mono ?_); rintro e w2 ⟨rfl, hr, hs, hg⟩; have HR := Lib.hid hr; have G2 := Lib.hid (grew_trans G1.out hg); clear hr hs hg))
        | (go_at_call 9; ((with_reducible refine (CT _ (HI.out.keep G2.out)).mono ?_); rintro e w3 ⟨v3, rfl, ho, hg⟩; have HO := Lib.hid ho; have HR3 := Lib.hid (HR.out.keep hg); have G23 := Lib.hid hg; have G3 := Lib.hid (grew_trans G2.out hg); clear ho hg))
        | (at_builtin; refine (wpList_append_E rfl _ _ 22 40 (legV 0 0 0 0) 32 rfl Try.underlying22 info_lg rfl w2.heap.size _ _ rfl HO.out _ n n TL rfl (by intro h; cases h) HR3.out (by have := HLL.out; unfold maxLen; omega) (by have := HLL.out; omega) G23.out.size ?_); intro v4 w4 hv hb4; obtain ⟨A4, c4, rfl, hm4⟩ := Mine.of hv; rw [HLT.out] at hm4 ⊢; have H4 := Lib.hid hm4; have HR4 := Lib.hid (HR.out.keep (grew_below G23.out hb4 (Nat.le_refl _))); have G4 := Lib.hid (grew_below G3.out hb4 G2.out.size); clear hv hb4 hm4)
        | (go_at_call 12; ((with_reducible refine (CJ2 _ _ _ H4.out.row).mono ?_); rintro e w5 ⟨A5, c5, rfl, hm, hg⟩; have HR5 := Lib.hid (HR4.out.keep hg); have G5 := Lib.hid (grew_trans G4.out hg); clear hm hg))
        | (go_at_call 17; ((with_reducible refine (CU2 _ _ HR5.out).mono ?_); rintro e w6 ⟨rfl, hr, hs, hg⟩; have HR6 := Lib.hid hr; have G6 := Lib.hid (grew_trans G5.out hg); clear hr hs hg))
        | (go_at_call 14; ((with_reducible refine (CL _ _ HR6.out (HI.out.keep G6.out)).mono ?_); rintro e w7 ⟨rfl, hg⟩; have G7 := Lib.hid (grew_trans G6.out hg); clear hg))
        | (go_at_call 16; ((with_reducible refine (WK _).mono ?_); rintro e w8 ⟨rfl, hg⟩; have G8 := Lib.hid (grew_trans G7.out hg); clear hg)))
      go_ret
      exact ⟨rfl, G8.out⟩
    · have d1 : (joinE l != 0) = true := by simpa using he
      generalize joinE l = JE at *
      generalize joinL l = JL at *
      generalize JL.length = NJ at *
      clear he h hA hn
      go_enter Try.func6, Try.ntmps6
      go_wp2_with (first
        | (go_at_call 12; ((with_reducible refine (CJ _ HI.out).mono ?_); rintro e w1 ⟨A1, c1, rfl, hm, hg⟩; have G1 := Lib.hid hg; clear hm hg))
        | (go_at_call 16; ((with_reducible refine (WK _).mono ?_); rintro e w2 ⟨rfl, hg⟩; have G2 := Lib.hid (grew_trans G1.out hg); clear hg)))
      go_ret
      exact ⟨rfl, G2.out⟩
end Go.Proofs.Ytmbhkeppikaeaaa.NumK
