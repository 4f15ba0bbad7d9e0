/- Slices of slices of bytes; frame.Sum. -/
import Derived.Test.YtogncnoheodgbaaFrameA
namespace Go.Proofs.Ytogncnoheodgbaa.NumK
open Go.RowKit

/-- A slice of slices of bytes. -/
def RowsB (w : World) (A : Option Addr) (n : Nat) (ls : List (List UInt8)) : Prop :=
  ls.length = n ∧ (0 < n → ∃ b o, A = some ⟨b, o, none⟩ ∧ b < w.heap.size ∧ ∀ j, j < n → ∃ A1 n1 c1, w.cell? ⟨b, o + j, none⟩ = some (.slice A1 n1 c1) ∧ Bys w A1 n1 (ls.getD j []) ∧ (A1 = none → c1 = 0) ∧ n1 ≤ c1 ∧ n1 ≤ 9223372036854775807)
theorem RowsB.keep {w w' : World} {A : Option Addr} {n : Nat} {l : List (List UInt8)} (h : RowsB w A n l) (g : Grew w w') : RowsB w' A n l :=
  ⟨h.1, fun hn => by
    obtain ⟨b, o, e, hb, hc⟩ := h.2 hn
    refine ⟨b, o, e, Nat.lt_of_lt_of_le hb g.size, fun j hj => ?_⟩
    obtain ⟨A1, n1, c1, h1, h2, h3, h4, h5⟩ := hc j hj
    exact ⟨A1, n1, c1, (grew_cell g (p := ⟨b, o + j, none⟩) hb).trans h1, h2.keep g, h3, h4, h5⟩⟩
theorem RowsB.at {w : World} {A : Option Addr} {n : Nat} {l : List (List UInt8)} (h : RowsB w A n l) {k : Nat} (hk : k < n) :
    ∃ b o A1 n1 c1, A = some ⟨b, o, none⟩ ∧ w.cell? ⟨b, o + k, none⟩ = some (.slice A1 n1 c1) ∧ Bys w A1 n1 (l.getD k []) ∧ (A1 = none → c1 = 0) ∧ n1 ≤ c1 ∧ n1 ≤ 9223372036854775807 := by
  obtain ⟨b, o, e, _, hc⟩ := h.2 (by omega)
  obtain ⟨A1, n1, c1, h1⟩ := hc k hk
  exact ⟨b, o, A1, n1, c1, e, h1⟩
theorem flat_snoc (l : List (List UInt8)) (k : Nat) (hk : k < l.length) : (l.take (k + 1)).flatten = (l.take k).flatten ++ l.getD k [] := by
  rw [List.take_succ_eq_append_getElem hk, List.flatten_append]
  simp [List.getD, hk]
theorem take_snocB (l : List UInt8) (k : Nat) (hk : k < l.length) : l.take (k + 1) = l.take k ++ [l.getD k 0] := by
  rw [List.take_succ_eq_append_getElem hk]
  simp [List.getD, hk]
theorem xor_ones {t : Nat} (ht : t < 4294967296) : bits .xor .u32 IntKind.u32.max (t : Int) = ((t ^^^ 4294967295 : Nat) : Int) := by
  have h := u32_xor_nat 4294967295 t (by omega) ht
  rw [Nat.xor_comm] at h
  exact h

set_option maxHeartbeats 1000000 in
theorem sum_any (A : Option Addr) (n c : Nat) (ls : List (List UInt8)) (w : World) (h : RowsB w A n ls) (hn : n ≤ 9223372036854775807) :
    Calls Try.prog 10 #[.slice A n c] w fun e w' => e = .returned (.int .u32 (crc ls.flatten : Int)) ∧ w = w' := by
  have HI := Lib.hid h
  have HL := Lib.hid h.1
  have C := fun r b hr => shift_any r b hr w
  clear h
  go_enter Try.func10, Try.ntmps10
  go_wp2
  go_loop [3, 10] (fun v3 v10 => ∃ k : Nat, v10 = .int .i64 k ∧ k ≤ n ∧ v3 = .int .u32 (crcF 4294967295 (ls.take k).flatten : Int)) (fun _ v10 => n - (intOf v10).toNat)
  case atStart => exact ⟨0, rfl, by omega, rfl⟩
  case round =>
    obtain ⟨k, rfl, hk, rfl⟩ := hrel
    have HT := Lib.hid (crcF_lt (show 4294967295 < 4294967296 by omega) (ls.take k).flatten)
    by_cases hlt : k < n
    · obtain ⟨b, o, A1, n1, c1, rfl, g0, hb1, hA1, _, hn1⟩ := HI.out.at hlt
      have HF := Lib.hid (flat_snoc ls k (by rw [HL.out]; exact hlt))
      have a3 : (k : Int) < (n : Int) := by omega
      have HB := Lib.hid hb1
      have HBL := Lib.hid hb1.1
      have hRR : ∃ R, R = crcF 4294967295 (ls.take k).flatten := ⟨_, rfl⟩
      obtain ⟨R, hR⟩ := hRR
      have HR := Lib.hid hR
      rw [← hR]
      rw [← hR] at HT
      clear hb1 hR
      generalize ls.getD k [] = l at *
      go_wp2
      go_loop [3, 16] (fun v3 v16 => ∃ j : Nat, v16 = .int .i64 j ∧ j ≤ n1 ∧ v3 = .int .u32 (crcF R (l.take j) : Int)) (fun _ v16 => n1 - (intOf v16).toNat)
      case atStart => exact ⟨0, rfl, by omega, rfl⟩
      case round =>
        obtain ⟨j, rfl, hj, rfl⟩ := hrel
        have HTJ := Lib.hid (crcF_lt HT.out (l.take j))
        by_cases hltj : j < n1
        · obtain ⟨b1, o1, rfl, _, hc1⟩ := HB.out.2 (by omega)
          have a1 := hc1 j hltj
          have a4 : (j : Int) < (n1 : Int) := by omega
          have HS := Lib.hid (take_snocB l j (by rw [HBL.out]; exact hltj))
          clear hc1
          generalize l.getD j 0 = x at *
          have HN := Lib.hid (crcF_snoc R (l.take j) x)
          generalize crcF R (l.take j) = t at *
          have CC := Lib.hid (C t x HTJ.out)
          generalize x.toNat = u at *
          go_wp2_with (go_at_call 21; ((with_reducible refine CC.out.mono ?_); rintro e w1 ⟨rfl, rfl⟩))
          go_round
          case rel => exact ⟨j + 1, by go_num, by omega, by rw [HS.out, HN.out]⟩
          case measure => simp only [intOf]; omega
        · obtain rfl : j = n1 := by omega
          have HE : Hid (crcF R (l.take j) = crcF 4294967295 (ls.take (k + 1)).flatten) := by show _ = _; rw [HF.out, crcF_append, ← HR.out, List.take_of_length_le (by rw [HBL.out]; omega)]
          generalize crcF R (l.take j) = t at *
          go_wp2
          go_round
          case rel => exact ⟨k + 1, by go_num, by omega, by rw [HE.out]⟩
          case measure => simp only [intOf]; omega
    · obtain rfl : k = n := by omega
      have HE : Hid (crcF 4294967295 (ls.take k).flatten ^^^ 4294967295 = crc ls.flatten) := by show _ = _; rw [List.take_of_length_le (by rw [HL.out]; omega)]; rfl
      generalize crcF 4294967295 (ls.take k).flatten = t at *
      have HX := Lib.hid (xor_ones HT.out)
      go_wp2
      go_ret
      exact ⟨by show Ending.returned (.int .u32 (bits .xor .u32 IntKind.u32.max (t : Int))) = _; rw [HX.out, HE.out], rfl⟩
end Go.Proofs.Ytogncnoheodgbaa.NumK
