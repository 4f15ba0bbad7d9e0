/- The law FrameBack. -/
import Derived.Test.YtogncnoheodgbaaFrLaw0
namespace Go.Proofs.Ytogncnoheodgbaa.NumK
open Go.RowKit

set_option maxRecDepth 100000 in
set_option maxHeartbeats 2000000 in
theorem frameBack_walk (gen no : Int) (A A1 : Option Addr) (n c m c1 : Nat) (l l1 : List UInt8) (w : World) (h : Bys w A n l) (hA : A = none → c = 0) (hc : n ≤ c) (h1 : Bys w A1 m l1) (hA1 : A1 = none → c1 = 0) (_ : c ≤ 9223372036854775807) (_ : m ≤ 9223372036854775807) :
    Calls Try.prog 5 #[.int .i64 gen, .int .i64 no, .slice A n c, .slice A1 m c1] w fun e w' => e = .returned (.bool true) ∧ Grew w w' := by
  by_cases k1 : (65536 : Int) < (n : Int)
  · clear h h1 hA hA1 hc
    go_enter Try.func5, Try.ntmps5
    go_wp2
    go_ret
    exact ⟨rfl, grew_refl _⟩
  by_cases k2 : (131072 : Int) < (m : Int)
  · clear h h1 hA hA1 hc
    go_enter Try.func5, Try.ntmps5
    go_wp2
    go_ret
    exact ⟨rfl, grew_refl _⟩
  by_cases k3 : gen < 0
  · clear h h1 hA hA1 hc
    go_enter Try.func5, Try.ntmps5
    go_wp2
    go_ret
    exact ⟨rfl, grew_refl _⟩
  by_cases k4 : 1099511627776 < gen
  · clear h h1 hA hA1 hc
    go_enter Try.func5, Try.ntmps5
    go_wp2
    go_ret
    exact ⟨rfl, grew_refl _⟩
  by_cases k5 : no < 0
  · clear h h1 hA hA1 hc
    go_enter Try.func5, Try.ntmps5
    go_wp2
    go_ret
    exact ⟨rfl, grew_refl _⟩
  by_cases k6 : 2147483647 < no
  · clear h h1 hA hA1 hc
    go_enter Try.func5, Try.ntmps5
    go_wp2
    go_ret
    exact ⟨rfl, grew_refl _⟩
  obtain ⟨N, hN⟩ : ∃ N : Nat, N = n + 21 := ⟨_, rfl⟩
  have w1 : IntKind.i64.wrap ((n : Int) + 21) = (N : Int) := by rw [IntKind.wrap_i64]; omega
  have hN9 : N ≤ 70000 := by omega
  have CSeal := Lib.hid (seal_fits gen no A n c N l w hN h hA hc (by omega) (by omega) (by omega) (by omega) (by omega))
  have CT := Lib.hid (fun A N c F w' hb hA hn => twinB_any A N c F w' hb hA hn)
  have CF := Lib.hid (fun A3 N3 c3 w3 hb hA hc hc2 => first_back gen no A3 N3 c3 n N l l1 w3 hN h.1 hb hA hc hc2 (by omega) (by omega) (by omega) (by omega) (by omega))
  have CK := Lib.hid (fun A5 c5 w' (hb : Bys w' A5 n l) hg => keepBytes_any A5 A n n c5 c l l w' hb (h.keep hg) (by omega) (by omega))
  have CW := Lib.hid (fun w => wakes05_any w)
  have HL1 := Lib.hid h1
  have HA1 := Lib.hid hA1
  have d1 : decide (l = l) = true := decide_eq_true rfl
  rw [d1] at CK
  clear h h1 hA hA1 hN d1
  generalize frameB gen.toNat no.toNat l = F at *
  go_enter Try.func5, Try.ntmps5
  go_upto_region 6 with (go_at_call 14; ((with_reducible refine CSeal.out.mono ?_); rintro e x1 ⟨hg, A2, c2, rfl, ho⟩; have HG1 := Lib.hid hg; have HO1 := Lib.hid ho; clear hg ho CSeal))
  have HT := Lib.hid (CT.out A2 N c2 F x1 HO1.out.2.1 HO1.out.2.2.1 (by omega))
  go_upto_region 7 with (first
    | (go_at_call 13; ((with_reducible refine HT.out.mono ?_); rintro e x2 ⟨hg, A3, c3, rfl, ho, _, _, _⟩; have HGT := Lib.hid hg; have HO2 := Lib.hid ho; have HS2 := Lib.hid hg.size; have HL2 := Lib.hid (HL1.out.keep (grew_trans HG1.out hg)); clear hg ho HT))
    | (at_builtin; refine (wpList_append_bytes rfl _ _ rfl x1.heap.size _ N F rfl HO2.out A1 m c1 l1 rfl HA1.out HL2.out (by omega) HS2.out ?_); intro v x3 hv hb; obtain ⟨A4, c4, rfl, ho4⟩ := ownB_of hv; have HG4 := Lib.hid (grew_trans HG1.out (HGT.out.trans hb)); have HF4 := Lib.hid (CF.out A4 (N + m) c4 x3 ho4.2.1 ho4.2.2.1 ho4.2.2.2.1 ho4.2.2.2.2); clear hv hb ho4)
    | (go_at_call 18; ((with_reducible refine HF4.out.mono ?_); rintro e x5 ⟨hg, A5, c5, rfl, ho⟩; have HG5 := Lib.hid (grew_trans HG4.out hg); have HK5 := Lib.hid (CK.out A5 c5 x5 ho.2.1 (grew_trans HG4.out hg)); clear hg ho HF4)))
  go_wp2_with (first
    | (go_at_call 16; ((with_reducible refine HK5.out.mono ?_); rintro e x6 ⟨rfl, hg⟩; have HG6 := Lib.hid (grew_trans HG5.out hg); clear hg HK5))
    | (go_at_call 12; ((with_reducible refine (CW.out _).mono ?_); rintro e x7 ⟨rfl, hg⟩; have HG7 := Lib.hid (grew_trans HG6.out hg); clear hg)))
  go_ret
  exact ⟨rfl, HG7.out⟩

theorem frameBack_row (gen no : Int) (A A1 : Option Addr) (n c m c1 : Nat) (l l1 : List Int) (w : World) (h : Row (spInt .u8) w A n l) (hA : A = none → c = 0) (hc : n ≤ c) (hc2 : c ≤ 9223372036854775807) (h1 : Row (spInt .u8) w A1 m l1) (hA1 : A1 = none → c1 = 0) (hm : m ≤ 9223372036854775807) :
    Calls Try.prog 5 #[.int .i64 gen, .int .i64 no, .slice A n c, .slice A1 m c1] w fun e w' => e = .returned (.bool true) ∧ Grew w w' := by
  obtain ⟨xs, hx⟩ := bys_of_row h
  obtain ⟨ys, hy⟩ := bys_of_row h1
  exact frameBack_walk gen no A A1 n c m c1 xs ys w hx hA hc hy hA1 hc2 hm
end Go.Proofs.Ytogncnoheodgbaa.NumK
