/- The law FrameCuts. -/
import Derived.Test.YtogncnoheodgbaaFrLaw0
namespace Go.Proofs.Ytogncnoheodgbaa.NumK
open Go.RowKit

set_option maxRecDepth 100000 in
set_option maxHeartbeats 2000000 in
theorem frameCuts_walk (gen no at' : Int) (A : Option Addr) (n c : Nat) (l : List UInt8) (w : World) (h : Bys w A n l) (hA : A = none → c = 0) (hc : n ≤ c) :
    Calls Try.prog 6 #[.int .i64 gen, .int .i64 no, .slice A n c, .int .i64 at'] w fun e w' => e = .returned (.bool true) ∧ Grew w w' := by
  by_cases k1 : (65536 : Int) < (n : Int)
  · clear h hA hc
    go_enter Try.func6, Try.ntmps6
    go_wp2
    go_ret
    exact ⟨rfl, grew_refl _⟩
  by_cases k2 : gen < 0
  · clear h hA hc
    go_enter Try.func6, Try.ntmps6
    go_wp2
    go_ret
    exact ⟨rfl, grew_refl _⟩
  by_cases k3 : 1099511627776 < gen
  · clear h hA hc
    go_enter Try.func6, Try.ntmps6
    go_wp2
    go_ret
    exact ⟨rfl, grew_refl _⟩
  by_cases k4 : no < 0
  · clear h hA hc
    go_enter Try.func6, Try.ntmps6
    go_wp2
    go_ret
    exact ⟨rfl, grew_refl _⟩
  by_cases k5 : 2147483647 < no
  · clear h hA hc
    go_enter Try.func6, Try.ntmps6
    go_wp2
    go_ret
    exact ⟨rfl, grew_refl _⟩
  obtain ⟨N, hN⟩ : ∃ N : Nat, N = n + 21 := ⟨_, rfl⟩
  have hN9 : N ≤ 70000 := by omega
  have hN0 : ((N : Int) == 0) = false := by simp; omega
  have hN1 : (0 : Int) < (N : Int) := by omega
  have hw : IntKind.u64.wrap (N : Int) = (N : Int) := by rw [IntKind.wrap_u64]; omega
  obtain ⟨U, hU⟩ : ∃ U : Int, U = IntKind.u64.wrap at' := ⟨_, rfl⟩
  have hU0 : 0 ≤ U := by rw [hU, IntKind.wrap_u64]; omega
  have hKU := hU.symm
  obtain ⟨K, hK⟩ : ∃ K : Nat, U % (N : Int) = (K : Int) := ⟨(U % (N : Int)).toNat, by have := Int.emod_nonneg U (show (N : Int) ≠ 0 by omega); omega⟩
  have hKN : K < N := by have := Int.emod_lt_of_pos U (show (0 : Int) < (N : Int) by omega); omega
  have CSeal := Lib.hid (seal_fits gen no A n c N l w hN h hA hc (by omega) (by omega) (by omega) (by omega) (by omega))
  have hcut : frs ((frameB gen.toNat no.toNat l).take K) = none := frs_cut gen.toNat no.toNat l (by omega) (by omega) (by have := h.1; omega) K (by have := h.1; omega)
  have CF := Lib.hid (fun A3 c3 w3 hb hA hc hc2 => first_none A3 K c3 _ w3 hb hA hc hc2 hcut)
  have CW := Lib.hid (fun w => wakes05_any w)
  clear h hA hN hcut hU
  generalize frameB gen.toNat no.toNat l = F at *
  go_enter Try.func6, Try.ntmps6
  go_upto_region 6 with (go_at_call 14; ((with_reducible refine CSeal.out.mono ?_); rintro e x1 ⟨hg, A2, c2, rfl, ho⟩; have HG1 := Lib.hid hg; have HO1 := Lib.hid ho; have hc2 : (N : Int) ≤ (c2 : Int) := Int.ofNat_le.2 ho.2.2.2.1; clear hg ho CSeal))
  have HF := Lib.hid (CF.out A2 c2 x1 (HO1.out.2.1.take (by omega)) HO1.out.2.2.1 (by omega) HO1.out.2.2.2.2)
  have j1 : (0 : Int) ≤ (K : Int) := by omega
  have j2 : (K : Int) ≤ (c2 : Int) := by omega
  go_upto_region 7 with (go_at_call 18; ((with_reducible refine HF.out.mono ?_); rintro e x5 ⟨hg, rfl⟩; have HG5 := Lib.hid (grew_trans HG1.out hg); clear hg HF))
  go_wp2_with (go_at_call 12; ((with_reducible refine (CW.out _).mono ?_); rintro e x7 ⟨rfl, hg⟩; have HG7 := Lib.hid (grew_trans HG5.out hg); clear hg))
  go_ret
  exact ⟨rfl, HG7.out⟩

theorem frameCuts_row (gen no at' : Int) (A : Option Addr) (n c : Nat) (l : List Int) (w : World) (h : Row (spInt .u8) w A n l) (hA : A = none → c = 0) (hc : n ≤ c) :
    Calls Try.prog 6 #[.int .i64 gen, .int .i64 no, .slice A n c, .int .i64 at'] w fun e w' => e = .returned (.bool true) ∧ Grew w w' := by
  obtain ⟨xs, hx⟩ := bys_of_row h
  exact frameCuts_walk gen no at' A n c xs w hx hA hc
end Go.Proofs.Ytogncnoheodgbaa.NumK
