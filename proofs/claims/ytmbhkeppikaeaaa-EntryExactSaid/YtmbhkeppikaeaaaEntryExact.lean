/- The law EntryExact. -/
import Derived.Test.YtmbhkeppikaeaaaEnForm
namespace Go.Proofs.Ytmbhkeppikaeaaa.NumK
open Go.RowKit

set_option maxRecDepth 100000 in
set_option maxHeartbeats 2000000 in
theorem entryExact_walk (A : Option Addr) (n c : Nat) (l : List Lg) (w : World) (h : RowE enLg w A n l) (hA : A = none → c = 0) (hn : n ≤ 9223372036854775807) :
    Calls Try.prog 3 #[.slice A n c] w fun e w' => e = .returned (.bool true) ∧ Grew w w' := by
  by_cases hbig : (300 : Int) < (n : Int)
  · go_enter Try.func3, Try.ntmps3
    go_wp2
    go_ret
    exact ⟨rfl, grew_refl _⟩
  · have HI := Lib.hid h
    have HN : n ≤ 300 := by omega
    have hJN := joinL_len l
    have CT := twin_form A n c l w h hA (by omega)
    have CC := fun A c w (h : RowE enLg w A n l) => check_any A n c l w h (by omega)
    have CD := fun w (h : RowE enLg w A n l) => refCheck_any A n c l w h (by omega)
    have CJ := fun A c w (h : RowE enLg w A n l) => join_form A n c l w h (by omega)
    have CK := fun w (h : RowE enLg w A n l) => refJoin_form A n c l w h (by omega)
    have CL1 := fun A1 c1 w (h : RowE enLg w A1 n l) (h2 : RowE enLg w A n l) => legs_yes A1 A n n c1 c l w h h2 (by omega)
    have CL2 := fun A1 A2 c1 c2 w (h : RowE enLg w A1 (joinL l).length (joinL l)) (h2 : RowE enLg w A2 (joinL l).length (joinL l)) => legs_yes A1 A2 _ _ c1 c2 (joinL l) w h h2 (by omega)
    have CS := fun A1 c1 base w (h : Mine w base A1 (joinL l).length c1 (joinL l)) => spoilLegs_any A1 _ c1 base w h.slab (by omega)
    have WK := fun w => wakes09_any w
    generalize checkE l = CE at *
    generalize joinE l = JE at *
    generalize (joinL l).length = NJ at *
    generalize joinL l = JL at *
    clear h hA hn hJN
    go_enter Try.func3, Try.ntmps3
    go_wp2_with (first
      | (go_at_call 9; ((with_reducible refine CT.mono ?_); rintro e w1 ⟨A1, c1, rfl, hm, hg⟩; have HT := Lib.hid hm; have G1 := Lib.hid hg; clear hm hg))
      | (go_at_call 10; ((with_reducible refine (CC _ _ _ HT.out.row).mono ?_); rintro e w2 ⟨rfl, hg⟩; have G12 := Lib.hid hg; have G2 := Lib.hid (grew_trans G1.out hg); clear hg))
      | (go_at_call 11; ((with_reducible refine (CD _ (HI.out.keep G2.out)).mono ?_); rintro e w3 ⟨rfl, hg⟩; have G13 := Lib.hid (grew_trans G12.out hg); have G3 := Lib.hid (grew_trans G2.out hg); clear hg))
      | (go_at_call 12; ((with_reducible refine (CJ _ _ _ (HT.out.row.keep G13.out)).mono ?_); rintro e w4 ⟨A4, c4, rfl, hm, hg⟩; have H4 := Lib.hid hm; have G14 := Lib.hid (grew_trans G13.out hg); have G4 := Lib.hid (grew_trans G3.out hg); clear hm hg))
      | (go_at_call 13; ((with_reducible refine (CK _ (HI.out.keep G4.out)).mono ?_); rintro e w5 ⟨A5, c5, rfl, hm, hg⟩; have H5 := Lib.hid hm; have H45 := Lib.hid (H4.out.keep hg); have G15 := Lib.hid (grew_trans G14.out hg); have G5 := Lib.hid (grew_trans G4.out hg); clear hm hg))
      | (go_at_call 14; ((with_reducible refine (CL2 _ _ _ _ _ H45.out.row H5.out).mono ?_); rintro e w6 ⟨rfl, hg⟩; have H46 := Lib.hid (H45.out.keep hg); have G16 := Lib.hid (grew_trans G15.out hg); have G6 := Lib.hid (grew_trans G5.out hg); clear hg))
      | (go_at_call 15; ((with_reducible refine (CS _ _ _ _ H46.out).mono ?_); rintro e w7 ⟨rfl, hg⟩; have G17 := Lib.hid (grew_below G16.out hg G13.out.size); have G7 := Lib.hid (grew_below G6.out hg G3.out.size); clear hg))
      | (go_at_call 14; ((with_reducible refine (CL1 _ _ _ (HT.out.row.keep G17.out) (HI.out.keep G7.out)).mono ?_); rintro e w8 ⟨rfl, hg⟩; have G8 := Lib.hid (grew_trans G7.out hg); clear hg))
      | (go_at_call 16; ((with_reducible refine (WK _).mono ?_); rintro e w9 ⟨rfl, hg⟩; have G9 := Lib.hid (grew_trans G8.out hg); clear hg)))
    go_ret
    exact ⟨rfl, G9.out⟩
end Go.Proofs.Ytmbhkeppikaeaaa.NumK
