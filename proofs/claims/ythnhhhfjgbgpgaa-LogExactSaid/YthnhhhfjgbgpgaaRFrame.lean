/- frame: shiftIn, Sum. -/
import Derived.Test.YthnhhhfjgbgpgaaRMath
import Derived.Laws.BitsAllLaws
import Derived.StillTailTactics
import Derived.Deep.CutBlock
import Derived.Test.YthnhhhfjgbgpgaaRGrd
namespace Go.Proofs.Ythnhhhfjgbgpgaa.NumK
open Go.RowKit

theorem ret_u32 {a b : Nat} (h : a = b) : Ending.returned (.int .u32 (a : Int)) = .returned (.int .u32 (b : Int)) := by rw [h]

theorem stp_odd {t : Nat} (ht : t < 4294967296) (h : t % 2 = 1) : bits .xor .u32 ((t : Int) / 2) 3988292384 = ((stp t : Nat) : Int) := by
  have := u32_xor_nat (t / 2) poly (by omega) (by decide)
  unfold stp
  rw [if_pos h, ← this]
  rfl
theorem stp_even {t : Nat} (h : t % 2 = 0) : (t : Int) / 2 = ((stp t : Nat) : Int) := by
  unfold stp
  rw [if_neg (by omega), Nat.xor_zero]; omega
theorem and_one {t : Nat} (ht : t < 4294967296) : bits .and .u32 (t : Int) 1 = ((t % 2 : Nat) : Int) := by
  have := u32_and_nat t 1 ht (by omega)
  rw [Nat.and_one_is_mod] at this
  exact this

set_option maxHeartbeats 1000000 in
theorem shift_any (r : Nat) (b : UInt8) (hr : r < 4294967296) (w : World) :
    Calls Try.prog 74 #[.int .u32 (r : Int), .int .u8 (b.toNat : Int)] w fun e w' => e = .returned (.int .u32 (shB r b : Int)) ∧ w = w' := by
  have hb := b.toNat_lt
  have hx : bits .xor .u32 (r : Int) (b.toNat : Int) = ((r ^^^ b.toNat : Nat) : Int) := u32_xor_nat r b.toNat hr (by omega)
  have hlt : r ^^^ b.toNat < 4294967296 := Nat.xor_lt_two_pow (n := 32) hr (by omega)
  have HS : Hid (shB r b = stps 8 (r ^^^ b.toNat)) := rfl
  generalize r ^^^ b.toNat = R at *
  generalize shB r b = Z at *
  generalize b.toNat = u at *
  go_enter Try.func74, Try.ntmps74
  go_wp2
  clear hx
  go_loop [0, 10] (fun v0 v10 => ∃ k : Nat, v10 = .int .i64 k ∧ k ≤ 8 ∧ v0 = .int .u32 (stps k R : Int)) (fun _ v10 => 8 - (intOf v10).toNat)
  case atStart => exact ⟨0, rfl, by omega, rfl⟩
  case round =>
    obtain ⟨k, rfl, hk, rfl⟩ := hrel
    have ht := stps_lt hlt k
    by_cases hlt8 : k < 8
    · have a3 : (k : Int) < 8 := by omega
      have HN := Lib.hid (stps_succ k R)
      generalize stps k R = t at *
      rcases (show t % 2 = 0 ∨ t % 2 = 1 by omega) with h2 | h2
      · have e1 := and_one ht
        rw [h2] at e1
        have HE := Lib.hid (stp_even h2)
        go_wp2
        go_round
        case rel => exact ⟨k + 1, by go_num, by omega, by rw [HN.out, ← HE.out]⟩
        case measure => simp only [intOf]; omega
      · have e1 := and_one ht
        rw [h2] at e1
        have e2 := stp_odd ht h2
        go_wp2
        go_round
        case rel => exact ⟨k + 1, by go_num, by omega, by rw [HN.out]⟩
        case measure => simp only [intOf]; omega
    · obtain rfl : k = 8 := by omega
      go_wp2
      go_ret
      exact ⟨ret_u32 HS.out.symm, rfl⟩
end Go.Proofs.Ythnhhhfjgbgpgaa.NumK
namespace Go.Proofs.Ythnhhhfjgbgpgaa.NumK
open Go.RowKit

/-- A slice of slices of bytes. -/
def RowsB (w : World) (A : Option Addr) (n : Nat) (ls : List (List UInt8)) : Prop :=
  ls.length = n ∧ (0 < n → ∃ b o, A = some ⟨b, o, none⟩ ∧ b < w.heap.size ∧ ∀ j, j < n → ∃ A1 n1 c1, w.cell? ⟨b, o + j, none⟩ = some (.slice A1 n1 c1) ∧ Bys w A1 n1 (ls.getD j []) ∧ (A1 = none → c1 = 0) ∧ n1 ≤ c1 ∧ n1 ≤ 9223372036854775807)
theorem RowsB.keep {w w' : World} {A : Option Addr} {n : Nat} {l : List (List UInt8)} (h : RowsB w A n l) (g : Grew w w') : RowsB w' A n l :=
  ⟨h.1, fun hn => by
    obtain ⟨b, o, e, hb, hc⟩ := h.2 hn
    refine ⟨b, o, e, Nat.lt_of_lt_of_le hb g.size, fun j hj => ?_⟩
    obtain ⟨A1, n1, c1, h1, h2, h3, h4, h5⟩ := hc j hj
    exact ⟨A1, n1, c1, (grew_cell g (p := ⟨b, o + j, none⟩) hb).trans h1, h2.keep g, h3, h4, h5⟩⟩
theorem RowsB.at {w : World} {A : Option Addr} {n : Nat} {l : List (List UInt8)} (h : RowsB w A n l) {k : Nat} (hk : k < n) :
    ∃ b o A1 n1 c1, A = some ⟨b, o, none⟩ ∧ w.cell? ⟨b, o + k, none⟩ = some (.slice A1 n1 c1) ∧ Bys w A1 n1 (l.getD k []) ∧ (A1 = none → c1 = 0) ∧ n1 ≤ c1 ∧ n1 ≤ 9223372036854775807 := by
  obtain ⟨b, o, e, _, hc⟩ := h.2 (by omega)
  obtain ⟨A1, n1, c1, h1⟩ := hc k hk
  exact ⟨b, o, A1, n1, c1, e, h1⟩
theorem flat_snoc (l : List (List UInt8)) (k : Nat) (hk : k < l.length) : (l.take (k + 1)).flatten = (l.take k).flatten ++ l.getD k [] := by
  rw [List.take_succ_eq_append_getElem hk, List.flatten_append]
  simp [List.getD, hk]
theorem take_snocB (l : List UInt8) (k : Nat) (hk : k < l.length) : l.take (k + 1) = l.take k ++ [l.getD k 0] := by
  rw [List.take_succ_eq_append_getElem hk]
  simp [List.getD, hk]
theorem xor_ones {t : Nat} (ht : t < 4294967296) : bits .xor .u32 IntKind.u32.max (t : Int) = ((t ^^^ 4294967295 : Nat) : Int) := by
  have h := u32_xor_nat 4294967295 t (by omega) ht
  rw [Nat.xor_comm] at h
  exact h

set_option maxHeartbeats 1000000 in
theorem sum_any (A : Option Addr) (n c : Nat) (ls : List (List UInt8)) (w : World) (h : RowsB w A n ls) (hn : n ≤ 9223372036854775807) :
    Calls Try.prog 70 #[.slice A n c] w fun e w' => e = .returned (.int .u32 (crc ls.flatten : Int)) ∧ w = w' := by
  have HI := Lib.hid h
  have HL := Lib.hid h.1
  have C := fun r b hr => shift_any r b hr w
  clear h
  go_enter Try.func70, Try.ntmps70
  go_wp2
  go_loop [3, 10] (fun v3 v10 => ∃ k : Nat, v10 = .int .i64 k ∧ k ≤ n ∧ v3 = .int .u32 (crcF 4294967295 (ls.take k).flatten : Int)) (fun _ v10 => n - (intOf v10).toNat)
  case atStart => exact ⟨0, rfl, by omega, rfl⟩
  case round =>
    obtain ⟨k, rfl, hk, rfl⟩ := hrel
    have HT := Lib.hid (crcF_lt (show 4294967295 < 4294967296 by omega) (ls.take k).flatten)
    by_cases hlt : k < n
    · obtain ⟨b, o, A1, n1, c1, rfl, g0, hb1, hA1, _, hn1⟩ := HI.out.at hlt
      have HF := Lib.hid (flat_snoc ls k (by rw [HL.out]; exact hlt))
      have a3 : (k : Int) < (n : Int) := by omega
      have HB := Lib.hid hb1
      have HBL := Lib.hid hb1.1
      have hRR : ∃ R, R = crcF 4294967295 (ls.take k).flatten := ⟨_, rfl⟩
      obtain ⟨R, hR⟩ := hRR
      have HR := Lib.hid hR
      rw [← hR]
      rw [← hR] at HT
      clear hb1 hR
      generalize ls.getD k [] = l at *
      go_wp2
      go_loop [3, 16] (fun v3 v16 => ∃ j : Nat, v16 = .int .i64 j ∧ j ≤ n1 ∧ v3 = .int .u32 (crcF R (l.take j) : Int)) (fun _ v16 => n1 - (intOf v16).toNat)
      case atStart => exact ⟨0, rfl, by omega, rfl⟩
      case round =>
        obtain ⟨j, rfl, hj, rfl⟩ := hrel
        have HTJ := Lib.hid (crcF_lt HT.out (l.take j))
        by_cases hltj : j < n1
        · obtain ⟨b1, o1, rfl, _, hc1⟩ := HB.out.2 (by omega)
          have a1 := hc1 j hltj
          have a4 : (j : Int) < (n1 : Int) := by omega
          have HS := Lib.hid (take_snocB l j (by rw [HBL.out]; exact hltj))
          clear hc1
          generalize l.getD j 0 = x at *
          have HN := Lib.hid (crcF_snoc R (l.take j) x)
          generalize crcF R (l.take j) = t at *
          have CC := Lib.hid (C t x HTJ.out)
          generalize x.toNat = u at *
          go_wp2_with (go_at_call 74; ((with_reducible refine CC.out.mono ?_); rintro e w1 ⟨rfl, rfl⟩))
          go_round
          case rel => exact ⟨j + 1, by go_num, by omega, by rw [HS.out, HN.out]⟩
          case measure => simp only [intOf]; omega
        · obtain rfl : j = n1 := by omega
          have HE : Hid (crcF R (l.take j) = crcF 4294967295 (ls.take (k + 1)).flatten) := by show _ = _; rw [HF.out, crcF_append, ← HR.out, List.take_of_length_le (by rw [HBL.out]; omega)]
          generalize crcF R (l.take j) = t at *
          go_wp2
          go_round
          case rel => exact ⟨k + 1, by go_num, by omega, by rw [HE.out]⟩
          case measure => simp only [intOf]; omega
    · obtain rfl : k = n := by omega
      have HE : Hid (crcF 4294967295 (ls.take k).flatten ^^^ 4294967295 = crc ls.flatten) := by show _ = _; rw [List.take_of_length_le (by rw [HL.out]; omega)]; rfl
      generalize crcF 4294967295 (ls.take k).flatten = t at *
      have HX := Lib.hid (xor_ones HT.out)
      go_wp2
      go_ret
      exact ⟨by show Ending.returned (.int .u32 (bits .xor .u32 IntKind.u32.max (t : Int))) = _; rw [HX.out, HE.out], rfl⟩
end Go.Proofs.Ythnhhhfjgbgpgaa.NumK
namespace Go.Proofs.Ythnhhhfjgbgpgaa.NumK
open Go.RowKit

set_option maxRecDepth 100000 in
theorem or_byte (t u : Nat) (hu : u < 256) (ht : t * 256 + u < 18446744073709551616) : bits .or .u64 ((t : Int) * 256) (u : Int) = ((t * 256 + u : Nat) : Int) := by
  have h := u64_or_nat (t * 256) u (by omega) (by omega)
  have e : t * 256 + u = t * 256 ||| u := by
    have := Nat.two_pow_add_eq_or_of_lt (i := 8) hu t
    rw [Nat.mul_comm t 256]; exact this
  rw [e, ← h]
  rfl
theorem num_take_lt (l : List UInt8) (k n : Nat) (h : l.length = n) (hn : n ≤ 8) (hk : k < n) : num (l.take k) * 256 + (l.getD k 0).toNat < 18446744073709551616 := by
  have h1 := num_lt (l.take (k + 1))
  have h2 : num (l.take (k + 1)) = num (l.take k) * 256 + (l.getD k 0).toNat := by
    rw [take_snocB l k (by omega)]; exact numF_snoc _ _ _
  rw [h2] at h1
  refine Nat.lt_of_lt_of_le h1 ?_
  rw [List.length_take, Nat.min_eq_left (by omega)]
  exact Nat.pow_le_pow_right (n := 256) (by omega) (show k + 1 ≤ 8 by omega)
theorem num_snoc (l : List UInt8) (k : Nat) (hk : k < l.length) : num (l.take (k + 1)) = num (l.take k) * 256 + (l.getD k 0).toNat := by
  rw [take_snocB l k hk]; exact numF_snoc _ _ _

theorem ret_u64 {a b : Nat} (h : a = b) : Ending.returned (.int .u64 (a : Int)) = .returned (.int .u64 (b : Int)) := by rw [h]

set_option maxRecDepth 100000 in
set_option maxHeartbeats 1000000 in
theorem number_any (A : Option Addr) (n c : Nat) (l : List UInt8) (w : World) (h : Bys w A n l) (hn : n ≤ 8) :
    Calls Try.prog 71 #[.slice A n c] w fun e w' => e = .returned (.int .u64 (num l : Int)) ∧ w = w' := by
  have HB := Lib.hid h
  have HL := Lib.hid h.1
  clear h
  go_enter Try.func71, Try.ntmps71
  go_wp2
  go_loop [3, 8] (fun v3 v8 => ∃ k : Nat, v8 = .int .i64 k ∧ k ≤ n ∧ v3 = .int .u64 (num (l.take k) : Int)) (fun _ v8 => n - (intOf v8).toNat)
  case atStart => exact ⟨0, rfl, by omega, rfl⟩
  case round =>
    obtain ⟨k, rfl, hk, rfl⟩ := hrel
    by_cases hlt : k < n
    · obtain ⟨b, o, rfl, _, hc⟩ := HB.out.2 (by omega)
      have a1 := hc k hlt
      have a3 : (k : Int) < (n : Int) := by omega
      have hb := num_take_lt l k n HL.out hn hlt
      have HS := Lib.hid (num_snoc l k (by rw [HL.out]; exact hlt))
      have hu := (l.getD k 0).toNat_lt
      clear hc
      generalize l.getD k 0 = x at *
      generalize num (l.take k) = t at *
      generalize x.toNat = u at *
      have e1 := or_byte t u hu hb
      have e2 : IntKind.u64.wrap ((t : Int) * 256) = (t : Int) * 256 := by rw [IntKind.wrap_u64]; omega
      go_wp2
      go_round
      case rel => exact ⟨k + 1, by go_num, by omega, by rw [HS.out]; congr 1⟩
      case measure => simp only [intOf]; omega
    · obtain rfl : k = n := by omega
      have HF : Hid (num (l.take k) = num l) := by show _ = _; rw [List.take_of_length_le (by rw [HL.out]; omega)]
      generalize num (l.take k) = t at *
      go_wp2
      go_ret
      exact ⟨ret_u64 HF.out, rfl⟩
end Go.Proofs.Ythnhhhfjgbgpgaa.NumK
namespace Go.Proofs.Ythnhhhfjgbgpgaa.NumK
open Go.RowKit

theorem be_take (N k i : Nat) (h : i < k) : (be N k).take (i + 1) = (be N k).take i ++ [UInt8.ofNat (N / 256 ^ (k - 1 - i))] := by
  induction k generalizing i with
  | zero => omega
  | succ k ih =>
    cases i with
    | zero => simp [be]
    | succ i =>
      simp only [be, List.take_succ_cons, List.cons_append]
      rw [ih i (by omega), show k + 1 - 1 - (i + 1) = k - 1 - i by omega]
theorem byte_at (N j : Nat) : IntKind.u8.wrap ((N : Int) / 2 ^ (8 * j)) = ((UInt8.ofNat (N / 256 ^ j)).toNat : Int) := by
  have : ((N : Int) / 2 ^ (8 * j)) = ((N / 256 ^ j : Nat) : Int) := by
    rw [show (256 : Nat) = 2 ^ 8 from rfl, ← Nat.pow_mul]; simp
  rw [IntKind.wrap_u8, u8_ofNat_mod, this]
  rfl

set_option maxRecDepth 100000 in
set_option maxHeartbeats 1000000 in
theorem appendNumber_any (N k : Nat) (hk : k ≤ 8) (base : Nat) (v : Value) (m : Nat) (xs : List UInt8) (w : World) (ho : w.ownsRow base 5 1 v m (xs.map byv)) (hb : base ≤ w.heap.size) (hm : m ≤ 1000000000) :
    Calls Try.prog 69 #[v, .int .i64 ((m + k : Nat) : Int), .int .u64 (N : Int)] w fun e w' => ∃ v', e = .returned v' ∧ w'.ownsRow base 5 1 v' (m + k) ((xs ++ be N k).map byv) ∧ Below base w w' := by
  obtain ⟨A, c, rfl, _, _, _⟩ := bys_of_own ho
  have HO := Lib.hid ho
  clear ho
  obtain ⟨E, hE⟩ : ∃ E : Nat, E = m + k := ⟨_, rfl⟩
  have hd : (E : Int) - (m : Int) = (k : Int) := by omega
  rw [← hE]
  have hEb : E ≤ 1000000008 := by omega
  have HE := Lib.hid hE
  clear hE
  go_enter Try.func69, Try.ntmps69
  go_wp2
  clear hd
  go_loopw [0, 7] (fun v0 v7 wr => ∃ j : Nat, v7 = .int .i64 j ∧ j ≤ k ∧ Hid (wr.ownsRow base 5 1 v0 (m + (k - j)) ((xs ++ (be N k).take (k - j)).map byv)) ∧ Hid (Below base w wr)) (fun _ v7 _ => (intOf v7).toNat)
  case atStart => exact ⟨k, rfl, Nat.le_refl _, by simpa using HO, Below.refl _ _⟩
  case round =>
    obtain ⟨j, rfl, hj, HR, HB⟩ := hrel
    cases j with
    | zero =>
      have HF := HR.out
      rw [Nat.sub_zero, List.take_of_length_le (by rw [be_len]; omega), ← HE.out] at HF
      have HF2 := Lib.hid HF
      clear HF
      go_wp2
      go_ret
      exact ⟨_, rfl, HF2.out, HB.out⟩
    | succ i =>
      have a3 : (0 : Int) < ((i + 1 : Nat) : Int) := by omega
      have e1 := byte_at N i
      have HS := Lib.hid (be_take N k (k - (i + 1)) (by omega))
      rw [show k - 1 - (k - (i + 1)) = i by omega] at HS
      generalize UInt8.ofNat (N / 256 ^ i) = x at *
      go_wp2_with (at_builtin; refine (wpList_append_bytes rfl _ _ rfl base _ (m + (k - (i + 1))) _ rfl (HR.out.alloc _) (some ⟨wr.heap.size, 0, none⟩) 1 1 [x] rfl (by intro h; cases h) (bys1 _ x _ _ rfl) (by omega) (by have := HB.out.size; simp; omega) ?_); intro v' w' hv' hb'; have HV' := Lib.hid hv'; have HB' := Lib.hid hb'; clear hv' hb')
      go_roundw
      case rel => exact ⟨i, by go_num, by omega, by rw [show k - i = k - (i + 1) + 1 by omega, HS.out, ← List.append_assoc, ← Nat.add_assoc]; exact HV', (Below.alloc HB.out (Nat.le_trans hb HB.out.size) _).trans HB'.out⟩
      case measure => simp only [intOf]; omega
end Go.Proofs.Ythnhhhfjgbgpgaa.NumK
namespace Go.Proofs.Ythnhhhfjgbgpgaa.NumK
open Go.RowKit

theorem rows1 {w : World} {A1 : Option Addr} {n1 c1 : Nat} {l1 : List UInt8} (t : TypeId) (h1 : Bys w A1 n1 l1) (a1 : A1 = none → c1 = 0) (b1 : n1 ≤ c1) (d1 : n1 ≤ 9223372036854775807) :
    RowsB (w.alloc (.cells #[.slice A1 n1 c1] t)) (some ⟨w.heap.size, 0, none⟩) 1 [l1] :=
  ⟨rfl, fun _ => ⟨_, _, rfl, by simp, fun j hj => by
    match j, hj with
    | 0, _ => exact ⟨A1, n1, c1, by simp, h1.keep (grew_alloc _ _ _), a1, b1, d1⟩⟩⟩
theorem rows2 {w : World} {A1 A2 : Option Addr} {n1 c1 n2 c2 : Nat} {l1 l2 : List UInt8} (t : TypeId) (h1 : Bys w A1 n1 l1) (a1 : A1 = none → c1 = 0) (b1 : n1 ≤ c1) (d1 : n1 ≤ 9223372036854775807)
    (h2 : Bys w A2 n2 l2) (a2 : A2 = none → c2 = 0) (b2 : n2 ≤ c2) (d2 : n2 ≤ 9223372036854775807) :
    RowsB (w.alloc (.cells #[.slice A1 n1 c1, .slice A2 n2 c2] t)) (some ⟨w.heap.size, 0, none⟩) 2 [l1, l2] :=
  ⟨rfl, fun _ => ⟨_, _, rfl, by simp, fun j hj => by
    match j, hj with
    | 0, _ => exact ⟨A1, n1, c1, by simp, h1.keep (grew_alloc _ _ _), a1, b1, d1⟩
    | 1, _ => exact ⟨A2, n2, c2, by simp, h2.keep (grew_alloc _ _ _), a2, b2, d2⟩⟩⟩

/-- The sum of a frame's bytes but its first and its own. -/
def msgB (l : List UInt8) : List UInt8 := (l.drop 1).take 16 ++ l.drop 21
def agreesB (l : List UInt8) : Bool := decide (num ((l.drop 17).take 4) = crc (msgB l))

theorem agrees_eq (l : List UInt8) : (((num ((l.drop 17).take 4) : Nat) : Int) == ((crc (msgB l) : Nat) : Int)) = agreesB l := by
  unfold agreesB
  by_cases h : num ((l.drop 17).take 4) = crc (msgB l)
  · rw [h]; simp
  · rw [decide_eq_false h]; simp; omega
theorem sum_of_two {b o n c : Nat} {l : List UInt8} {w : World} (h : Bys w (some ⟨b, o, none⟩) n l) (h21 : 21 ≤ n) (hc : n ≤ c) (hn : c ≤ 9223372036854775807) :
    Calls Try.prog 70 #[.slice (some ⟨w.heap.size, 0, none⟩) 2 2] (w.alloc (.cells #[.slice (some ⟨b, o + 1, none⟩) 16 (c - 1), .slice (if c = 21 then some ⟨b, o, none⟩ else some ⟨b, o + 21, none⟩) (n - 21) (c - 21)] 37)) fun e w' => e = .returned (.int .u32 (crc (msgB l) : Int)) ∧ w.alloc (.cells #[.slice (some ⟨b, o + 1, none⟩) 16 (c - 1), .slice (if c = 21 then some ⟨b, o, none⟩ else some ⟨b, o + 21, none⟩) (n - 21) (c - 21)] 37) = w' := by
  have h2 := bys_cut (t := 21) (T := n) h h21 (Nat.le_refl _) hc
  rw [List.take_of_length_le (l := l.drop 21) (by have := h.1; simp; omega)] at h2
  have := sum_any (some ⟨w.heap.size, 0, none⟩) 2 2 [(l.drop 1).take 16, l.drop 21] _ (rows2 (A1 := some ⟨b, o + 1, none⟩) (A2 := if c = 21 then some ⟨b, o, none⟩ else some ⟨b, o + 21, none⟩) (n1 := 16) (c1 := c - 1) (n2 := n - 21) (c2 := c - 21) 37 ((h.drop (k := 1) (by omega)).take (k := 16) (by omega)) (fun h => by cases h) (by omega) (by omega) h2 (fun h => (ite_some _ _ h).elim) (by omega) (by omega)) (by omega)
  simpa [msgB] using this

set_option maxRecDepth 100000 in
set_option maxHeartbeats 1000000 in
theorem agrees_any (b o n c : Nat) (l : List UInt8) (w : World) (h : Bys w (some ⟨b, o, none⟩) n l) (h21 : 21 ≤ n) (hc : n ≤ c) (hn : c ≤ 9223372036854775807) :
    Calls Try.prog 72 #[.slice (some ⟨b, o, none⟩) n c] w fun e w' => e = .returned (.bool (agreesB l)) ∧ Grew w w' := by
  have HB := Lib.hid h
  have HL := Lib.hid h.1
  have CS := fun (A : Option Addr) (n c : Nat) ls w h hn => sum_any A n c ls w h hn
  clear h
  have i1 : (17 : Int) ≤ (c : Int) := by omega
  have i2 : (21 : Int) ≤ (n : Int) := by omega
  have i3 : (n : Int) ≤ (c : Int) := by omega
  go_enter Try.func72, Try.ntmps72
  go_wp2
  go_still_tail 4, (by kernel_rfl)
  change wpList _ _ _ _ _ w.drew
  have hg2 : Grew w w.drew := Below.drew (grew_refl _)
  have HG : Hid (Grew w w.drew) := hg2
  clear hg2
  generalize w.drew = w2 at *
  have HCS := Lib.hid (sum_of_two (c := c) (w := w2) (HB.out.keep HG.out) h21 hc hn)
  have HCN := fun w' (g : Grew w w') => number_any (some ⟨b, o + 17, none⟩) 4 (c - 17) ((l.drop 17).take 4) w' (((HB.out.keep g).drop (k := 17) (by omega)).take (k := 4) (by omega)) (by omega)
  have i4 : (21 : Int) ≤ (c : Int) := by omega
  have HX := Lib.hid (agrees_eq l)
  clear CS
  have hcr := crc_lt (msgB l)
  have hwr : IntKind.u64.wrap ((crc (msgB l) : Nat) : Int) = ((crc (msgB l) : Nat) : Int) := by rw [IntKind.wrap_u64]; omega
  generalize (l.drop 17).take 4 = N4 at *
  generalize num N4 = V at *
  generalize crc (msgB l) = Z at *
  go_wp2_with (first | (go_at_call 70; ((with_reducible refine HCS.out.mono ?_); rintro e w1 ⟨rfl, rfl⟩)) | (go_at_call 71; ((with_reducible refine (HCN _ (grew_trans HG.out (grew_alloc _ _ _))).mono ?_); rintro e w1 ⟨rfl, rfl⟩)))
  all_goals
    go_ret
    exact ⟨ret_b HX.out, grew_trans HG.out (grew_alloc _ _ _)⟩
end Go.Proofs.Ythnhhhfjgbgpgaa.NumK
namespace Go.Proofs.Ythnhhhfjgbgpgaa.NumK
open Go.RowKit

/-- What a slice of the call's own is, its capacity too. -/
theorem bys_own2 {w : World} {base : Nat} {e : TypeId} {v : Value} {n : Nat} {l : List UInt8} (h : w.ownsRow base e 1 v n (l.map byv)) :
    ∃ A c, v = .slice A n c ∧ Bys w A n l ∧ (A = none → c = 0) ∧ n ≤ c ∧ c ≤ 9223372036854775807 ∧ ∀ w0 : World, w0.heap.size ≤ base → FreshB w0 w A n c := by
  obtain ⟨A, c, rfl, h1, h2, h3⟩ := bys_of_own h
  refine ⟨A, c, rfl, h1, h2, ?_, ?_, h3⟩
  · rcases h.2 with ⟨e1, e2⟩ | ⟨g, cap, cur, e1, _, _, h4, _⟩
    · cases e1; omega
    · cases e1; exact h4
  · rcases h.2 with ⟨e1, e2⟩ | ⟨g, cap, cur, e1, _, _, _, h4, _⟩
    · cases e1; omega
    · cases e1; unfold maxLen at h4; omega
theorem ownB_keep {w w' : World} {base : Nat} {e : TypeId} {v : Value} {n : Nat} {xs : List Value} (h : w.ownsRow base e 1 v n xs) (g : Grew w w') : w'.ownsRow base e 1 v n xs := by
  obtain ⟨h1, h2⟩ := h
  refine ⟨h1, ?_⟩
  rcases h2 with h2 | ⟨k, cap, cur, e1, e2, e3, e4⟩
  · exact Or.inl h2
  · exact Or.inr ⟨k, cap, cur, e1, e2, (g.block k (own_at_lt e3)).trans e3, e4⟩
theorem ownB_low {w : World} {base low : Nat} {e : TypeId} {v : Value} {n : Nat} {xs : List Value} (h : w.ownsRow base e 1 v n xs) (g : low ≤ base) : w.ownsRow low e 1 v n xs := by
  obtain ⟨h1, h2⟩ := h
  refine ⟨h1, ?_⟩
  rcases h2 with h2 | ⟨k, cap, cur, e1, e2, e3, e4⟩
  · exact Or.inl h2
  · exact Or.inr ⟨k, cap, cur, e1, Nat.le_trans g e2, e3, e4⟩
theorem ownB_lit (w : World) (x : UInt8) (t : TypeId) (z : Int) (hz : z = (x.toNat : Int)) : (w.alloc (.cells #[.int .u8 z] t)).ownsRow w.heap.size t 1 (.slice (some ⟨w.heap.size, 0, none⟩) 1 1) 1 (([x] : List UInt8).map byv) := by
  subst hz
  exact ⟨rfl, .inr ⟨w.heap.size, 1, _, rfl, Nat.le_refl _, heap_alloc_new w _, Nat.le_refl _, by unfold maxLen; omega, rfl, rfl⟩⟩

/-- The run of 'make([]byte, 0, n)'. -/
theorem run_u8cap (w : World) (n : Nat) (hn : n ≤ 140737488355328) : (Instr.makeSlice 37 (.int .i64 0) (.int .i64 n)).run Try.prog w = .ok (.slice (some ⟨w.heap.size, 0, none⟩) 0 n) (w.alloc (.cells (madeCells #[.int .u8 0] n) 5)) := by
  obtain ⟨i, hi, hz0, hz1, hz2⟩ := info_parts info_u8
  have := run_make (P := Try.prog) w 37 5 i (.int .u8 0) Try.underlying37 hi hz0 .i64 .i64 0 n (by omega) (by omega) (by rw [hz2]; omega) (by omega)
  simpa [hz1, Value.cells] using this

def mayI (gen no : Int) (n : Nat) : Int := if gen < 0 ∨ 1099511627776 < gen ∨ no < 0 ∨ 2147483647 < no then 3 else if 65536 < n then 5 else 0
/-- What Seal tells. -/
def SealPost (gen no : Int) (l : List UInt8) (w : World) (e : Ending) (w' : World) : Prop :=
  Grew w w' ∧ ((mayI gen no l.length ≠ 0 ∧ e = .returned (.tuple #[.slice none 0 0, .int .i64 (mayI gen no l.length)])) ∨
    (mayI gen no l.length = 0 ∧ ∃ v, e = .returned (.tuple #[v, .int .i64 0]) ∧ w'.ownsRow w.heap.size 5 1 v (l.length + 21) ((frameB gen.toNat no.toNat l).map byv)))

set_option maxHeartbeats 1000000 in
theorem seal_arg (gen no : Int) (v : Value) (w : World) (h : gen < 0 ∨ 1099511627776 < gen ∨ no < 0 ∨ 2147483647 < no) :
    Calls Try.prog 60 #[.int .i64 gen, .int .i64 no, v] w fun e w' => e = .returned (.tuple #[.slice none 0 0, .int .i64 3]) ∧ w = w' := by
  by_cases h1 : gen < 0
  · clear h
    go_enter Try.func60, Try.ntmps60
    go_wp2
    go_ret2
    exact ⟨rfl, rfl⟩
  · by_cases h2 : 1099511627776 < gen
    · clear h
      go_enter Try.func60, Try.ntmps60
      go_wp2
      go_ret2
      exact ⟨rfl, rfl⟩
    · by_cases h3 : no < 0
      · clear h
        go_enter Try.func60, Try.ntmps60
        go_wp2
        go_ret2
        exact ⟨rfl, rfl⟩
      · have h4 : 2147483647 < no := by omega
        clear h
        go_enter Try.func60, Try.ntmps60
        go_wp2
        go_ret2
        exact ⟨rfl, rfl⟩
set_option maxHeartbeats 1000000 in
theorem seal_long (gen no : Int) (A : Option Addr) (n c : Nat) (w : World) (h1 : ¬ gen < 0) (h2 : ¬ 1099511627776 < gen) (h3 : ¬ no < 0) (h4 : ¬ 2147483647 < no) (hn : 65536 < n) :
    Calls Try.prog 60 #[.int .i64 gen, .int .i64 no, .slice A n c] w fun e w' => e = .returned (.tuple #[.slice none 0 0, .int .i64 5]) ∧ w = w' := by
  have d : (65536 : Int) < (n : Int) := by omega
  clear hn
  go_enter Try.func60, Try.ntmps60
  go_wp2
  go_ret2
  exact ⟨rfl, rfl⟩
end Go.Proofs.Ythnhhhfjgbgpgaa.NumK
namespace Go.Proofs.Ythnhhhfjgbgpgaa.NumK
open Go.RowKit

set_option maxRecDepth 100000 in
set_option maxHeartbeats 2000000 in
theorem seal_ok (gen no : Nat) (A : Option Addr) (n c : Nat) (l : List UInt8) (w : World) (h : Bys w A n l) (hA : A = none → c = 0) (hc : n ≤ c) (hg : gen ≤ 1099511627776) (hno : no ≤ 2147483647) (hn : n ≤ 65536) :
    Calls Try.prog 60 #[.int .i64 (gen : Int), .int .i64 (no : Int), .slice A n c] w fun e w' => Grew w w' ∧ ∃ v, e = .returned (.tuple #[v, .int .i64 0]) ∧ w'.ownsRow w.heap.size 5 1 v (n + 21) ((frameB gen no l).map byv) := by
  have HB := Lib.hid h
  have HL := Lib.hid h.1
  have HA := Lib.hid hA
  obtain ⟨K, hK⟩ : ∃ K : Nat, K = n + 21 := ⟨_, rfl⟩
  have hmk := fun w => run_u8cap w K (by omega)
  obtain ⟨G, hG⟩ : ∃ G : Int, G = (gen : Int) := ⟨_, rfl⟩
  obtain ⟨M, hM⟩ : ∃ M : Int, M = (no : Int) := ⟨_, rfl⟩
  have d1 : ¬ G < 0 := by omega
  have d2 : ¬ (1099511627776 : Int) < G := by omega
  have d3 : ¬ M < 0 := by omega
  have d4 : ¬ (2147483647 : Int) < M := by omega
  have d5 : ¬ (65536 : Int) < (n : Int) := by omega
  have w1 : IntKind.u64.wrap G = (gen : Int) := by rw [IntKind.wrap_u64]; omega
  have w2 : IntKind.u64.wrap M = (no : Int) := by rw [IntKind.wrap_u64]; omega
  have w3 : IntKind.u64.wrap (n : Int) = (n : Int) := by rw [IntKind.wrap_u64]; omega
  have w4 : IntKind.i64.wrap (21 + (n : Int)) = (K : Int) := by rw [IntKind.wrap_i64]; omega
  have HK := Lib.hid hK
  have hK0 : K ≤ 70000 := by omega
  rw [← hK, ← hG, ← hM]
  clear hK hG hM
  have C1 : Hid (∀ v w0, w0.ownsRow w.heap.size 5 1 v 1 (([195] : List UInt8).map byv) → w.heap.size ≤ w0.heap.size → Calls Try.prog 69 #[v, .int .i64 9, .int .u64 (gen : Int)] w0 fun e w' => ∃ v', e = .returned v' ∧ w'.ownsRow w.heap.size 5 1 v' 9 (([195] ++ be gen 8).map byv) ∧ Below w.heap.size w0 w') :=
    fun v w0 ho hb => appendNumber_any gen 8 (by omega) w.heap.size v 1 [195] w0 ho hb (by omega)
  have C2 : Hid (∀ v w0, w0.ownsRow w.heap.size 5 1 v 9 (([195] ++ be gen 8).map byv) → w.heap.size ≤ w0.heap.size → Calls Try.prog 69 #[v, .int .i64 13, .int .u64 (no : Int)] w0 fun e w' => ∃ v', e = .returned v' ∧ w'.ownsRow w.heap.size 5 1 v' 13 (([195] ++ be gen 8 ++ be no 4).map byv) ∧ Below w.heap.size w0 w') :=
    fun v w0 ho hb => appendNumber_any no 4 (by omega) w.heap.size v 9 _ w0 ho hb (by omega)
  have C3 : Hid (∀ v w0, w0.ownsRow w.heap.size 5 1 v 13 (([195] ++ be gen 8 ++ be no 4).map byv) → w.heap.size ≤ w0.heap.size → Calls Try.prog 69 #[v, .int .i64 17, .int .u64 (n : Int)] w0 fun e w' => ∃ v', e = .returned v' ∧ w'.ownsRow w.heap.size 5 1 v' 17 (([195] ++ be gen 8 ++ be no 4 ++ be n 4).map byv) ∧ Below w.heap.size w0 w') :=
    fun v w0 ho hb => appendNumber_any n 4 (by omega) w.heap.size v 13 _ w0 ho hb (by omega)
  have C4 : Hid (∀ z v w0, w0.ownsRow w.heap.size 5 1 v 17 (([195] ++ be gen 8 ++ be no 4 ++ be n 4).map byv) → w.heap.size ≤ w0.heap.size → Calls Try.prog 69 #[v, .int .i64 21, .int .u64 ((z : Nat) : Int)] w0 fun e w' => ∃ v', e = .returned v' ∧ w'.ownsRow w.heap.size 5 1 v' 21 (([195] ++ be gen 8 ++ be no 4 ++ be n 4 ++ be z 4).map byv) ∧ Below w.heap.size w0 w') :=
    fun z v w0 ho hb => appendNumber_any z 4 (by omega) w.heap.size v 17 _ w0 ho hb (by omega)
  have CS : Hid (∀ b o c2 w0, Grew w w0 → Bys w0 (some ⟨b, o, none⟩) 17 ([195] ++ be gen 8 ++ be no 4 ++ be n 4) → 17 ≤ c2 → Calls Try.prog 70 #[.slice (some ⟨w0.heap.size, 0, none⟩) 2 2] (w0.alloc (.cells #[.slice (some ⟨b, o + 1, none⟩) 16 (c2 - 1), .slice A n c] 37)) fun e w' => e = .returned (.int .u32 (crc (headB gen no n ++ l) : Int)) ∧ w0.alloc (.cells #[.slice (some ⟨b, o + 1, none⟩) 16 (c2 - 1), .slice A n c] 37) = w') := by
    intro b o c2 w0 hG hb2 hc2
    have h1 := hb2.drop (k := 1) (by omega)
    rw [head_drop] at h1
    have := sum_any (some ⟨w0.heap.size, 0, none⟩) 2 2 [headB gen no n, l] _ (rows2 (A1 := some ⟨b, o + 1, none⟩) (A2 := A) (n1 := 16) (c1 := c2 - 1) (n2 := n) (c2 := c) 37 h1 (fun h => by cases h) (by omega) (by omega) (h.keep hG) hA hc (by omega)) (by omega)
    simpa using this
  have hcr := crc_lt (headB gen no n ++ l)
  have w5 : IntKind.u64.wrap ((crc (headB gen no n ++ l) : Nat) : Int) = ((crc (headB gen no n ++ l) : Nat) : Int) := by rw [IntKind.wrap_u64]; omega
  have HF2 : Hid (([195] ++ be gen 8 ++ be no 4 ++ be n 4 ++ be (crc (headB gen no n ++ l)) 4) ++ l = frameB gen no l) := by have := frame_parts gen no l; rwa [h.1] at this
  clear h hA hg hno hn hcr
  generalize crc (headB gen no n ++ l) = Z at *
  generalize be gen 8 = B1 at *
  generalize be no 4 = B2 at *
  generalize be n 4 = B3 at *
  go_enter Try.func60, Try.ntmps60
  have hsz : (madeCells #[.int .u8 0] K).size = K * 1 := by rw [size_madeCells]; omega
  go_upto_region 6 with (fail)
  have HO0 : Hid ((w.alloc (.cells (madeCells #[.int .u8 0] K) 5)).ownsRow w.heap.size 5 1 (.slice (some ⟨w.heap.size, 0, none⟩) 0 K) 0 (([] : List UInt8).map byv)) := World.ownsRow_made w _ K (Nat.le_refl _) (by unfold maxLen; omega) hsz
  have HG0 : Hid (Grew w (w.alloc (.cells (madeCells #[.int .u8 0] K) 5))) := grew_alloc _ _ _
  clear hsz hmk
  generalize w.alloc (.cells (madeCells #[.int .u8 0] K) 5) = w0 at *
  go_upto_region 7 with (at_builtin; refine (wpList_append_bytes rfl _ _ rfl w.heap.size _ 0 [] rfl (HO0.out.alloc _) (some ⟨w0.heap.size, 0, none⟩) 1 1 [195] rfl (by intro h; cases h) (bys1 _ 195 _ _ rfl) (by omega) (by have := HG0.out.size; simp; omega) ?_); intro v1 wx1 hv' hb'; have HV1 := Lib.hid hv'; have HG1 := Lib.hid ((Below.alloc HG0.out HG0.out.size _).trans hb'); clear hv' hb')
  go_upto_region 10 with (first
    | (go_at_call 69; ((with_reducible refine (C1.out _ _ HV1.out HG1.out.size).mono ?_); rintro e wx2 ⟨v2, rfl, ho, hb⟩; have HV2 := Lib.hid ho; have HG2 := Lib.hid (HG1.out.trans hb); clear ho hb C1))
    | (go_at_call 69; ((with_reducible refine (C2.out _ _ HV2.out HG2.out.size).mono ?_); rintro e wx3 ⟨v3, rfl, ho, hb⟩; have HV3 := Lib.hid ho; have HG3 := Lib.hid (HG2.out.trans hb); clear ho hb C2))
    | (go_at_call 69; ((with_reducible refine (C3.out _ _ HV3.out HG3.out.size).mono ?_); rintro e wx4 ⟨v4, rfl, ho, hb⟩; have HV4 := Lib.hid ho; have HG4 := Lib.hid (HG3.out.trans hb); clear ho hb C3)))
  obtain ⟨A4, c4, rfl, hb4, hA4, hc4, hm4, _⟩ := bys_own2 HV4.out
  cases A4 with
  | none => have := hA4 rfl; omega
  | some ad =>
  obtain ⟨b, o, e, _, _⟩ := hb4.2 (by omega)
  cases e
  have HCS := Lib.hid (CS.out b o c4 wx4 HG4.out hb4 hc4)
  have HB4 := Lib.hid hb4
  clear hA4 hb4 CS
  have i1 : (1 : Int) ≤ (17 : Int) := by omega
  have hne : ¬ c4 = 1 := by omega
  have HO5 := Lib.hid (HV4.out.alloc (.cells #[.slice (some ⟨b, o + 1, none⟩) 16 (c4 - 1), .slice A n c] 37))
  have HG5 : Hid (Grew w (wx4.alloc (.cells #[.slice (some ⟨b, o + 1, none⟩) 16 (c4 - 1), .slice A n c] 37))) := Below.alloc HG4.out HG4.out.size _
  have HS5 := Lib.hid HG5.out.size
  go_upto_region 11 with (first
    | (go_at_call 70; ((with_reducible refine HCS.out.mono ?_); rintro e wx5 ⟨rfl, rfl⟩))
    | (go_at_call 69; ((with_reducible refine (C4.out Z _ _ HO5.out HS5.out).mono ?_); rintro e wx6 ⟨v6, rfl, ho, hb⟩; have HV6 := Lib.hid ho; have HG6 := Lib.hid (HG5.out.trans hb); clear ho hb C4)))
  clear HO5 HG5 HS5 HV4 HG4 HB4 HCS
  go_wp2_with (at_builtin; refine (wpList_append_bytes rfl _ _ rfl w.heap.size _ 21 _ rfl HV6.out A n c l rfl HA.out (HB.out.keep HG6.out) (by have := HK.out; omega) HG6.out.size ?_); intro v7 wx7 hv' hb'; have HV7 := Lib.hid hv'; have HG7 := Lib.hid (HG6.out.trans hb'); clear hv' hb')
  go_ret2
  exact ⟨HG7.out, v7, rfl, by have := HV7.out; rw [HF2.out, Nat.add_comm 21 n, ← HK.out] at this; exact this⟩

theorem seal_any (gen no : Int) (A : Option Addr) (n c : Nat) (l : List UInt8) (w : World) (h : Bys w A n l) (hA : A = none → c = 0) (hc : n ≤ c) :
    Calls Try.prog 60 #[.int .i64 gen, .int .i64 no, .slice A n c] w (SealPost gen no l w) := by
  have hl := h.1
  by_cases h1 : gen < 0 ∨ 1099511627776 < gen ∨ no < 0 ∨ 2147483647 < no
  · have hm : mayI gen no l.length = 3 := by unfold mayI; rw [if_pos h1]
    exact (seal_arg gen no _ w h1).mono fun e w' ⟨he, hw⟩ => ⟨hw ▸ grew_refl w, Or.inl ⟨by rw [hm]; decide, by rw [hm]; exact he⟩⟩
  · by_cases h2 : 65536 < n
    · have hm : mayI gen no l.length = 5 := by unfold mayI; rw [if_neg h1, if_pos (by omega)]
      exact (seal_long gen no A n c w (by omega) (by omega) (by omega) (by omega) h2).mono fun e w' ⟨he, hw⟩ => ⟨hw ▸ grew_refl w, Or.inl ⟨by rw [hm]; decide, by rw [hm]; exact he⟩⟩
    · have hm : mayI gen no l.length = 0 := by unfold mayI; rw [if_neg h1, if_neg (by omega)]
      have := seal_ok gen.toNat no.toNat A n c l w h hA hc (by omega) (by omega) (by omega)
      rw [Int.toNat_of_nonneg (by omega), Int.toNat_of_nonneg (by omega)] at this
      exact this.mono fun e w' ⟨hg, v, he, ho⟩ => ⟨hg, Or.inr ⟨hm, v, he, by rw [hl]; exact ho⟩⟩
end Go.Proofs.Ythnhhhfjgbgpgaa.NumK
namespace Go.Proofs.Ythnhhhfjgbgpgaa.NumK
open Go.RowKit

theorem results_tmp5 {fn : Func} {t u v x y : Tmp} (h : fn.results = #[.tmp t, .tmp u, .tmp v, .tmp x, .tmp y]) (tmps : Array Value) (P : Program) (w : World) :
    (results fn tmps).run P w = .ok (.tuple #[tmps.getD t undef, tmps.getD u undef, tmps.getD v undef, tmps.getD x undef, tmps.getD y undef]) w := by
  simp [results, h]

/-- What First tells of the bytes l. -/
def FirstPost (l : List UInt8) (w : World) (e : Ending) (w' : World) : Prop :=
  Grew w w' ∧ ((frs l = none ∧ e = .returned (.tuple #[.int .i64 0, .int .i64 0, .slice none 0 0, .int .i64 0, .int .i64 4])) ∨
    ∃ g m s v, frs l = some (g, m, s) ∧ e = .returned (.tuple #[.int .i64 (g : Int), .int .i64 (m : Int), v, .int .i64 ((21 + s : Nat) : Int), .int .i64 0]) ∧ w'.ownsRow w.heap.size 5 1 v s (((l.drop 21).take s).map byv))

theorem frs_short {l : List UInt8} (h : l.length < 21) : frs l = none := by unfold frs; rw [if_pos (Or.inl h)]
theorem frs_byte {l : List UInt8} (h : l.getD 0 0 ≠ 195) : frs l = none := by unfold frs; rw [if_pos (Or.inr h)]
theorem frs_nums {l : List UInt8} (h : 1099511627776 < num ((l.drop 1).take 8) ∨ 2147483647 < num ((l.drop 9).take 4) ∨ 65536 < num ((l.drop 13).take 4)) : frs l = none := by
  unfold frs
  split
  · rfl
  · first | rfl | rw [if_pos h]
theorem frs_rest {l : List UInt8} (h : l.length < 21 + num ((l.drop 13).take 4) ∨ agreesB (l.take (21 + num ((l.drop 13).take 4))) = false) : frs l = none := by
  unfold frs
  split
  · rfl
  · split
    · rfl
    · rw [if_pos]
      rcases h with h | h
      · exact Or.inl h
      · refine Or.inr ?_
        unfold agreesB msgB at h
        rw [decide_eq_false_iff_not] at h
        generalize num ((l.drop 13).take 4) = s at *
        rw [List.drop_take, List.take_take, List.drop_take, List.take_take, List.drop_take] at h
        rw [show min 4 (21 + s - 17) = 4 by omega, show min 16 (21 + s - 1) = 16 by omega, show 21 + s - 21 = s by omega] at h
        exact h
theorem frs_all {l : List UInt8} {s : Nat} (h21 : 21 ≤ l.length) (h0 : l.getD 0 0 = 195) (h1 : num ((l.drop 1).take 8) ≤ 1099511627776) (h2 : num ((l.drop 9).take 4) ≤ 2147483647) (hs : num ((l.drop 13).take 4) = s) (h3 : s ≤ 65536) (h4 : 21 + s ≤ l.length) (h5 : agreesB (l.take (21 + s)) = true) :
    frs l = some (num ((l.drop 1).take 8), num ((l.drop 9).take 4), s) := by
  unfold frs
  unfold agreesB msgB at h5
  rw [decide_eq_true_iff, List.drop_take, List.take_take, List.drop_take, List.take_take, List.drop_take] at h5
  rw [show min 4 (21 + s - 17) = 4 by omega, show min 16 (21 + s - 1) = 16 by omega, show 21 + s - 21 = s by omega] at h5
  rw [if_neg (by rw [not_or]; exact ⟨by omega, fun h => h h0⟩), hs, if_neg (by omega), if_neg (by rw [not_or]; exact ⟨by omega, fun h => h h5⟩)]

set_option maxRecDepth 100000 in
set_option maxHeartbeats 2000000 in
theorem first_any (A : Option Addr) (n c : Nat) (l : List UInt8) (w : World) (h : Bys w A n l) (hA : A = none → c = 0) (hc : n ≤ c) (hn : c ≤ 9223372036854775807) :
    Calls Try.prog 66 #[.slice A n c] w (FirstPost l w) := by
  have hl := h.1
  by_cases h21 : n < 21
  · have d1 : (n : Int) < 21 := by omega
    have HP : Hid (FirstPost l w (.returned (.tuple #[.int .i64 0, .int .i64 0, .slice none 0 0, .int .i64 0, .int .i64 4])) w) := ⟨grew_refl _, Or.inl ⟨frs_short (by omega), rfl⟩⟩
    clear h hA hc hn hl h21
    go_enter Try.func66, Try.ntmps66
    go_wp2
    (try simp only [Exit.inBlock, Exit.then]); refine bodyPost_ret (results_tmp5 rfl _ _ _) rfl ?_
    exact HP.out
  · obtain ⟨b, o, rfl, _, hcell⟩ := h.2 (by omega)
    have a0 := hcell 0 (by omega)
    rw [Nat.add_zero] at a0
    have d1 : ¬ (n : Int) < 21 := by omega
    by_cases h0 : l.getD 0 0 = 195
    · have hu : (l.getD 0 0).toNat = 195 := by rw [h0]; rfl
      rw [hu] at a0
      have CN1 := Lib.hid (number_any (some ⟨b, o + 1, none⟩) 8 (c - 1) ((l.drop 1).take 8) w ((h.drop (k := 1) (by omega)).take (k := 8) (by omega)) (by omega))
      have CN2 := Lib.hid (number_any (some ⟨b, o + 9, none⟩) 4 (c - 9) ((l.drop 9).take 4) w ((h.drop (k := 9) (by omega)).take (k := 4) (by omega)) (by omega))
      have CN3 := Lib.hid (number_any (some ⟨b, o + 13, none⟩) 4 (c - 13) ((l.drop 13).take 4) w ((h.drop (k := 13) (by omega)).take (k := 4) (by omega)) (by omega))
      obtain ⟨G, hG⟩ : ∃ G : Int, G = ((num ((l.drop 1).take 8) : Nat) : Int) := ⟨_, rfl⟩
      obtain ⟨M, hM⟩ : ∃ M : Int, M = ((num ((l.drop 9).take 4) : Nat) : Int) := ⟨_, rfl⟩
      obtain ⟨s, hs⟩ : ∃ s : Nat, s = num ((l.drop 13).take 4) := ⟨_, rfl⟩
      rw [← hG] at CN1
      rw [← hM] at CN2
      rw [← hs] at CN3
      have j1 : (17 : Int) ≤ (c : Int) := by omega
      have j2 : (9 : Int) ≤ (c : Int) := by omega
      have j3 : (13 : Int) ≤ (c : Int) := by omega
      by_cases k1 : 1099511627776 < G
      · have HP : Hid (FirstPost l w (.returned (.tuple #[.int .i64 0, .int .i64 0, .slice none 0 0, .int .i64 0, .int .i64 4])) w) := ⟨grew_refl _, Or.inl ⟨frs_nums (Or.inl (by omega)), rfl⟩⟩
        clear h hA hc hn hl h21 hcell h0 hu hG hM hs
        go_enter Try.func66, Try.ntmps66
        go_wp2_with (first
          | (go_at_call 71; ((with_reducible refine CN1.out.mono ?_); rintro e w1 ⟨rfl, rfl⟩))
          | (go_at_call 71; ((with_reducible refine CN2.out.mono ?_); rintro e w1 ⟨rfl, rfl⟩))
          | (go_at_call 71; ((with_reducible refine CN3.out.mono ?_); rintro e w1 ⟨rfl, rfl⟩)))
        (try simp only [Exit.inBlock, Exit.then]); refine bodyPost_ret (results_tmp5 rfl _ _ _) rfl ?_
        exact HP.out
      · by_cases k2 : 2147483647 < M
        · have HP : Hid (FirstPost l w (.returned (.tuple #[.int .i64 0, .int .i64 0, .slice none 0 0, .int .i64 0, .int .i64 4])) w) := ⟨grew_refl _, Or.inl ⟨frs_nums (Or.inr (Or.inl (by omega))), rfl⟩⟩
          clear h hA hc hn hl h21 hcell h0 hu hG hM hs
          go_enter Try.func66, Try.ntmps66
          go_wp2_with (first
            | (go_at_call 71; ((with_reducible refine CN1.out.mono ?_); rintro e w1 ⟨rfl, rfl⟩))
            | (go_at_call 71; ((with_reducible refine CN2.out.mono ?_); rintro e w1 ⟨rfl, rfl⟩))
            | (go_at_call 71; ((with_reducible refine CN3.out.mono ?_); rintro e w1 ⟨rfl, rfl⟩)))
          (try simp only [Exit.inBlock, Exit.then]); refine bodyPost_ret (results_tmp5 rfl _ _ _) rfl ?_
          exact HP.out
        · by_cases k3 : 65536 < s
          · have HP : Hid (FirstPost l w (.returned (.tuple #[.int .i64 0, .int .i64 0, .slice none 0 0, .int .i64 0, .int .i64 4])) w) := ⟨grew_refl _, Or.inl ⟨frs_nums (Or.inr (Or.inr (by omega))), rfl⟩⟩
            have k3' : (65536 : Int) < (s : Int) := by omega
            clear h hA hc hn hl h21 hcell h0 hu hG hM hs k3
            go_enter Try.func66, Try.ntmps66
            go_wp2_with (first
              | (go_at_call 71; ((with_reducible refine CN1.out.mono ?_); rintro e w1 ⟨rfl, rfl⟩))
              | (go_at_call 71; ((with_reducible refine CN2.out.mono ?_); rintro e w1 ⟨rfl, rfl⟩))
              | (go_at_call 71; ((with_reducible refine CN3.out.mono ?_); rintro e w1 ⟨rfl, rfl⟩)))
            (try simp only [Exit.inBlock, Exit.then]); refine bodyPost_ret (results_tmp5 rfl _ _ _) rfl ?_
            exact HP.out
          · have k3' : ¬ (65536 : Int) < (s : Int) := by omega
            obtain ⟨N, hN⟩ : ∃ N : Nat, N = 21 + s := ⟨_, rfl⟩
            have w6 : IntKind.i64.wrap (21 + (s : Int)) = (N : Int) := by rw [IntKind.wrap_i64]; omega
            have w7 : IntKind.i64.wrap (s : Int) = (s : Int) := by rw [IntKind.wrap_i64]; omega
            have w8 : IntKind.i64.wrap G = G := by rw [IntKind.wrap_i64]; omega
            have w9 : IntKind.i64.wrap M = M := by rw [IntKind.wrap_i64]; omega
            by_cases k4 : n < N
            · have HP : Hid (FirstPost l w (.returned (.tuple #[.int .i64 0, .int .i64 0, .slice none 0 0, .int .i64 0, .int .i64 4])) w) := ⟨grew_refl _, Or.inl ⟨frs_rest (Or.inl (by omega)), rfl⟩⟩
              have k4' : (n : Int) < (N : Int) := by omega
              clear h hA hc hn hl h21 hcell h0 hu hG hM hs k3 k4 hN
              go_enter Try.func66, Try.ntmps66
              go_wp2_with (first
                | (go_at_call 71; ((with_reducible refine CN1.out.mono ?_); rintro e w1 ⟨rfl, rfl⟩))
                | (go_at_call 71; ((with_reducible refine CN2.out.mono ?_); rintro e w1 ⟨rfl, rfl⟩))
                | (go_at_call 71; ((with_reducible refine CN3.out.mono ?_); rintro e w1 ⟨rfl, rfl⟩)))
              (try simp only [Exit.inBlock, Exit.then]); refine bodyPost_ret (results_tmp5 rfl _ _ _) rfl ?_
              exact HP.out
            · have k4' : ¬ (n : Int) < (N : Int) := by omega
              have i1 : (0 : Int) ≤ (N : Int) := by omega
              have i2 : (N : Int) ≤ (c : Int) := by omega
              have i3 : (21 : Int) ≤ (N : Int) := by omega
              have CA := Lib.hid (agrees_any b o N c (l.take N) w (h.take (by omega)) (by omega) (by omega) hn)
              cases hag : agreesB (l.take N) with
              | false =>
                rw [hag] at CA
                have HP : Hid (∀ w1, Grew w w1 → FirstPost l w (.returned (.tuple #[.int .i64 0, .int .i64 0, .slice none 0 0, .int .i64 0, .int .i64 4])) w1) := fun w1 hg => ⟨hg, Or.inl ⟨frs_rest (Or.inr (by rw [← hs, ← hN]; exact hag)), rfl⟩⟩
                clear h hA hc hn hl h21 hcell h0 hu hG hM hs k3 k4 hN hag
                go_enter Try.func66, Try.ntmps66
                go_wp2_with (first
                  | (go_at_call 71; ((with_reducible refine CN1.out.mono ?_); rintro e w1 ⟨rfl, rfl⟩))
                  | (go_at_call 71; ((with_reducible refine CN2.out.mono ?_); rintro e w1 ⟨rfl, rfl⟩))
                  | (go_at_call 71; ((with_reducible refine CN3.out.mono ?_); rintro e w1 ⟨rfl, rfl⟩))
                  | (go_at_call 72; ((with_reducible refine CA.out.mono ?_); rintro e wx1 ⟨rfl, hg⟩; have HG1 := Lib.hid hg; clear hg)))
                (try simp only [Exit.inBlock, Exit.then]); refine bodyPost_ret (results_tmp5 rfl _ _ _) rfl ?_
                exact HP.out _ HG1.out
              | true =>
                rw [hag] at CA
                have HP : Hid (∀ v2 w1, Grew w w1 → w1.ownsRow w.heap.size 5 1 v2 s (((l.drop 21).take s).map byv) → FirstPost l w (.returned (.tuple #[.int .i64 G, .int .i64 M, v2, .int .i64 (N : Int), .int .i64 0])) w1) :=
                  fun v2 w1 hg ho => ⟨hg, Or.inr ⟨_, _, s, v2, frs_all (by omega) h0 (by omega) (by omega) hs.symm (by omega) (by omega) (by rw [← hN]; exact hag), by rw [hG, hM, hN], ho⟩⟩
                have HB2 : Hid (∀ w1, Grew w w1 → Bys w1 (if c = 21 then some ⟨b, o, none⟩ else some ⟨b, o + 21, none⟩) (N - 21) ((l.drop 21).take (N - 21))) := fun w1 hg => bys_cut (t := 21) (T := N) (h.keep hg) (by omega) (by omega) hc
                have HSUB : Hid (N - 21 = s) := by show _ = _; omega
                have hN9 : N ≤ 70000 := by omega
                have hs9 : s ≤ 65536 := by omega
                clear h hA hc hn hl h21 hcell h0 hu hG hM hs k3 k4 hN hag
                go_enter Try.func66, Try.ntmps66
                go_upto_region 11 with (first
                  | (go_at_call 71; ((with_reducible refine CN1.out.mono ?_); rintro e w1 ⟨rfl, rfl⟩))
                  | (go_at_call 71; ((with_reducible refine CN2.out.mono ?_); rintro e w1 ⟨rfl, rfl⟩))
                  | (go_at_call 71; ((with_reducible refine CN3.out.mono ?_); rintro e w1 ⟨rfl, rfl⟩))
                  | (go_at_call 72; ((with_reducible refine CA.out.mono ?_); rintro e wx1 ⟨rfl, hg⟩; have HG1 := Lib.hid hg; clear hg)))
                go_wp2_with (at_builtin; refine (wpList_append_bytes rfl _ _ rfl w.heap.size (.slice none 0 0) 0 [] rfl (World.ownsRow_nil _ _ _ _) (if c = 21 then some ⟨b, o, none⟩ else some ⟨b, o + 21, none⟩) (N - 21) (c - 21) ((l.drop 21).take (N - 21)) rfl (fun h => (ite_some _ _ h).elim) (HB2.out _ HG1.out) (by omega) HG1.out.size ?_); intro v2 wx2 hv hb; rw [Nat.zero_add, List.nil_append] at hv; have HV2 := Lib.hid hv; have HG2 := Lib.hid (HG1.out.trans hb); clear hv hb)
                all_goals
                  (try simp only [Exit.inBlock, Exit.then]); refine bodyPost_ret (results_tmp5 rfl _ _ _) rfl ?_
                  exact HP.out _ _ HG2.out (by rw [← HSUB.out]; exact HV2.out)
    · have hu : ((l.getD 0 0).toNat : Int) ≠ 195 := by
        intro e
        exact h0 (UInt8.toNat_inj.1 (by show (l.getD 0 0).toNat = 195; omega))
      have HP : Hid (FirstPost l w (.returned (.tuple #[.int .i64 0, .int .i64 0, .slice none 0 0, .int .i64 0, .int .i64 4])) w) := ⟨grew_refl _, Or.inl ⟨frs_byte h0, rfl⟩⟩
      generalize (l.getD 0 0).toNat = u at *
      have d2 : ((u : Int) != 195) = true := by simpa using hu
      clear h hA hc hn hl h21 hcell h0 hu
      go_enter Try.func66, Try.ntmps66
      go_wp2
      (try simp only [Exit.inBlock, Exit.then]); refine bodyPost_ret (results_tmp5 rfl _ _ _) rfl ?_
      exact HP.out
end Go.Proofs.Ythnhhhfjgbgpgaa.NumK
namespace Go.Proofs.Ythnhhhfjgbgpgaa.NumK
open Go.RowKit
theorem opens_rows : OpensZ Try.prog 38 (spSliceZ 24 (spSliceZ 1 (spInt .u8))) :=
  opensZ_slice 24 Try.underlying38 (by kernel_rfl) (by kernel_rfl) (opensZ_slice 1 Try.underlying37 (by kernel_rfl) (by kernel_rfl) (opens_int Try.underlying5 (by kernel_rfl)).sized (by decide)) (by decide)
theorem rowsB_of_row {w : World} {A : Option Addr} {n : Nat} {l : List (List Int)} (h : Row (spSliceZ 1 (spInt .u8)) w A n l) : ∃ xs, RowsB w A n xs ∧ ∀ j, j < n → (xs.getD j []).length ≤ 140737488351232 := by
  rcases Nat.eq_zero_or_pos n with h0 | h0
  · exact ⟨[], ⟨by rw [h0]; rfl, fun hn => by omega⟩, fun j hj => by omega⟩
  · obtain ⟨b, o, e, hb, hc⟩ := h.2 h0
    have each : ∀ j, j < n → ∃ x : List UInt8, x.length ≤ 140737488351232 ∧ ∃ A1 n1 c1, w.cell? ⟨b, o + j, none⟩ = some (.slice A1 n1 c1) ∧ Bys w A1 n1 x ∧ (A1 = none → c1 = 0) ∧ n1 ≤ c1 ∧ n1 ≤ 9223372036854775807 := by
      intro j hj
      obtain ⟨cs, ⟨A1, n1, c1, rfl, h1, h2, h3, h4, h6⟩, h5⟩ := hc j (by rw [h.1]; exact hj)
      have g0 := h5 0 (by decide)
      obtain ⟨bs, hbs⟩ := bys_of_row h1
      have e1 : o + j * (spSliceZ 1 (spInt IntKind.u8)).size + 0 = o + j := by show o + j * 1 + 0 = _; omega
      rw [e1] at g0
      unfold maxLen at h4
      unfold reachBytes at h6
      exact ⟨bs, by rw [hbs.1]; omega, A1, n1, c1, by simpa using g0, hbs, h2, h3, by omega⟩
    obtain ⟨f, hf⟩ := Go.Deep.choose_lt each
    have e2 : ∀ j, j < n → ((List.range n).map f).getD j [] = f j := fun j hj => by simp [List.getD, hj]
    refine ⟨(List.range n).map f, ⟨by simp, fun _ => ⟨b, o, e, hb, fun j hj => ?_⟩⟩, fun j hj => by rw [e2 j hj]; exact (hf j hj).1⟩
    rw [e2 j hj]
    exact (hf j hj).2
end Go.Proofs.Ythnhhhfjgbgpgaa.NumK
