/- The law FrameSums. -/
import Derived.Test.YtogncnoheodgbaaOpenRB
import Derived.Test.YtogncnoheodgbaaWakes05
import Derived.Test.YtogncnoheodgbaaRefFrA
import Derived.Test.YtogncnoheodgbaaFrameF
namespace Go.Proofs.Ytogncnoheodgbaa.NumK
open Go.RowKit

set_option maxRecDepth 100000 in
set_option maxHeartbeats 2000000 in
theorem frameSums_walk (A : Option Addr) (n c : Nat) (ls : List (List UInt8)) (w : World) (h : RowsB w A n ls) (hz : ∀ j, j < n → (ls.getD j []).length ≤ 140737488351232) (hn : n ≤ 9223372036854775807) :
    Calls Try.prog 3 #[.slice A n c] w fun e w' => e = .returned (.bool true) ∧ Grew w w' := by
  have HZ := Lib.hid hz
  have HI := Lib.hid h
  have HLEN := Lib.hid h.1
  have CW := Lib.hid (fun w => wakes05_any w)
  clear h hz
  by_cases hbig : (1000 : Int) < (n : Int)
  · go_enter Try.func3, Try.ntmps3
    go_wp2
    go_ret
    exact ⟨rfl, grew_refl _⟩
  · go_enter Try.func3, Try.ntmps3
    go_wp2
    go_loopw [3, 4] (fun v3 v4 wr => ∃ k m : Nat, v4 = .int .i64 k ∧ k ≤ n ∧ m ≤ 131072 ∧ Hid (wr.ownsRow w.heap.size 5 1 v3 m ((ls.take k).flatten.map byv)) ∧ Hid (Grew w wr)) (fun _ v4 _ => n - (intOf v4).toNat)
    case atStart => exact ⟨0, 0, rfl, by omega, by omega, World.ownsRow_nil _ _ _ _, grew_refl _⟩
    case round =>
      obtain ⟨k, m, rfl, hk, hm, HO, HG⟩ := hrel
      obtain ⟨A3, c3, rfl, hb3, ha3, hc3, hm3, _⟩ := bys_own2 HO.out
      have HB3 := Lib.hid hb3
      have HA3 := Lib.hid ha3
      clear hb3 ha3
      by_cases hlt : k < n
      · obtain ⟨b, o, A1, n1, c1, rfl, g0, hb1, hA1, _, hn1⟩ := (HI.out.keep HG.out).at hlt
        have HF := Lib.hid (flat_snoc ls k (by rw [HLEN.out]; exact hlt))
        have a3 : (k : Int) < (n : Int) := by omega
        have HB1 := Lib.hid hb1
        have hz1 : (n1 : Int) ≤ 140737488351232 := by have := HZ.out k hlt; have := hb1.1; omega
        have HA1 := Lib.hid hA1
        have HGS := Lib.hid HG.out.size
        clear hb1 hA1
        generalize ls.getD k [] = l at *
        by_cases hr : (131072 : Int) < (n1 : Int) + (m : Int)
        · go_wp2
          go_ret
          exact ⟨rfl, HG.out⟩
        · go_wp2_with (at_builtin; refine (wpList_append_bytes rfl _ _ rfl w.heap.size _ m _ rfl HO.out A1 n1 c1 l rfl HA1.out HB1.out (by omega) HGS.out ?_); intro v5 w5 hv hb; rw [← HF.out] at hv; have HV5 := Lib.hid hv; have HG5 := Lib.hid (HG.out.trans hb); clear hv hb)
          go_roundw
          case rel => exact ⟨k + 1, m + n1, by go_num, by omega, by omega, HV5, HG5⟩
          case measure => simp only [intOf]; omega
      · obtain rfl : k = n := by omega
        have hfl : (ls.take k).flatten = ls.flatten := by rw [List.take_of_length_le (by rw [HLEN.out]; omega)]
        rw [hfl] at HB3
        clear HO hfl
        have CS1 := Lib.hid (sum_any A k c ls wr (HI.out.keep HG.out) hn)
        have CR := Lib.hid (refSum_any A3 m c3 ls.flatten wr HB3.out (by omega))
        have CS2 : Hid (Calls Try.prog 10 #[.slice (some ⟨wr.heap.size, 0, none⟩) 1 1] (wr.alloc (.cells #[.slice A3 m c3] 23)) fun e w' => e = .returned (.int .u32 (crc ls.flatten : Int)) ∧ wr.alloc (.cells #[.slice A3 m c3] 23) = w') := by
          have := sum_any (some ⟨wr.heap.size, 0, none⟩) 1 1 [ls.flatten] _ (rows1 (A1 := A3) (n1 := m) (c1 := c3) 23 HB3.out HA3.out hc3 (by omega)) (by omega)
          rw [show ([ls.flatten] : List (List UInt8)).flatten = ls.flatten by simp] at this
          exact this
        have CS3 := Lib.hid (sum_any A k c ls (wr.alloc (.cells #[.slice A3 m c3] 23)) (HI.out.keep (grew_trans HG.out (grew_alloc _ _ _))) hn)
        have HG2 : Hid (Grew w (wr.alloc (.cells #[.slice A3 m c3] 23))) := grew_trans HG.out (grew_alloc _ _ _)
        generalize crc ls.flatten = Z at *
        go_wp2_with (first
          | (go_at_call 10; ((with_reducible refine CS1.out.mono ?_); rintro e x1 ⟨rfl, rfl⟩))
          | (go_at_call 10; ((with_reducible refine CS2.out.mono ?_); rintro e x1 ⟨rfl, rfl⟩))
          | (go_at_call 10; ((with_reducible refine CS3.out.mono ?_); rintro e x1 ⟨rfl, rfl⟩))
          | (go_at_call 11; ((with_reducible refine CR.out.mono ?_); rintro e x1 ⟨rfl, rfl⟩))
          | (go_at_call 12; ((with_reducible refine (CW.out _).mono ?_); rintro e x2 ⟨rfl, hg⟩; have HGW := Lib.hid hg; clear hg)))
        go_ret
        exact ⟨rfl, grew_trans HG2.out HGW.out⟩

theorem frameSums_row (A : Option Addr) (n c : Nat) (l : List (List Int)) (w : World) (h : Row (spSliceZ 1 (spInt .u8)) w A n l) (hn : n ≤ 9223372036854775807) :
    Calls Try.prog 3 #[.slice A n c] w fun e w' => e = .returned (.bool true) ∧ Grew w w' := by
  obtain ⟨xs, hx, hz⟩ := rowsB_of_row h
  exact frameSums_walk A n c xs w hx hz hn
end Go.Proofs.Ytogncnoheodgbaa.NumK
