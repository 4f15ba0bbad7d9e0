/- The law PackWrites. -/
import Derived.Test.YtfhfgninjelfbaaRefPackB
import Derived.Deep.CutBlock
namespace Go.Proofs.Ytfhfgninjelfbaa.NumK
open Go.RowKit

theorem take_all {α : Type} {l : List α} {k : Nat} (h : l.length = k) : l.take k = l := List.take_of_length_le (by omega)
/-- What a Writer holds behind k items is not much. -/
theorem wAll_len {w : World} {A : Option Addr} {n : Nat} {l : List It} (h : Items w A n l) (hl : ∀ j, j < n → LightIt (l.getD j default)) : ∀ k, k ≤ n → wLen (wAll (l.take k)) ≤ 70000 * k := by
  intro k
  induction k with
  | zero => intro _; simp [wAll, wLen]
  | succ k ih =>
    intro hk
    have hlen := h.1
    rw [wAll_snoc l k (by omega)]
    obtain ⟨b, o, _, _, hc⟩ := h.2 (by omega)
    obtain ⟨A1, c1, A2, c2, hp, _⟩ := hc k (by omega)
    have := wItem_len (ih (by omega)) hp.intsIn (by rw [hp.ints.1]; exact (hl k (by omega)).1)
    omega

/-- The item at a place, in a world that has grown. -/
theorem Items.at {w wr : World} {A : Option Addr} {n : Nat} {l : List It} (h : Items w A n l) (g : Grew w wr) {k : Nat} (hk : k < n) : ∃ b o A1 c1 A2 c2, A = some ⟨b, o, none⟩ ∧ Parts wr (l.getD k default) A1 c1 A2 c2 ∧ (0 < (l.getD k default).n2 → ∀ a, A2 = some a → a.block < w.heap.size) ∧
    wr.cell? ⟨b, o + k * 4, none⟩ = some (.int .i64 (l.getD k default).K) ∧ wr.cell? ⟨b, o + k * 4 + 1, none⟩ = some (.slice A1 (l.getD k default).n1 c1) ∧ wr.cell? ⟨b, o + k * 4 + 2, none⟩ = some (.bool (l.getD k default).B) ∧ wr.cell? ⟨b, o + k * 4 + 3, none⟩ = some (.slice A2 (l.getD k default).n2 c2) := by
  obtain ⟨b, o, e, hb, hc⟩ := h.2 (by omega)
  obtain ⟨A1, c1, A2, c2, hp, h0, h1, h2, h3⟩ := hc k hk
  exact ⟨b, o, A1, c1, A2, c2, e, hp.keep g, fun hn a ha => hp.old2 a ha hn, (grew_cell g (p := ⟨b, o + k * 4, none⟩) hb).trans h0, (grew_cell g (p := ⟨b, o + k * 4 + 1, none⟩) hb).trans h1, (grew_cell g (p := ⟨b, o + k * 4 + 2, none⟩) hb).trans h2, (grew_cell g (p := ⟨b, o + k * 4 + 3, none⟩) hb).trans h3⟩
/-- The call that writes it. -/
theorem write_call (q : Nat) (st : Option (List UInt8)) (x : It) (A1 : Option Addr) (c1 : Nat) (A2 : Option Addr) (c2 : Nat) (w : World) (hW : WR w q st) (hp : Parts w x A1 c1 A2 c2) (h1 : x.n1 ≤ 200) (hq : 0 < x.n2 → ∀ a, A2 = some a → a.block < q) (hl : wLen st ≤ 900000000) :
    Calls Try.prog 11 #[.pointer (some ⟨q, 0, none⟩), .agg #[.int .i64 x.K, .slice A1 x.n1 c1, .bool x.B, .slice A2 x.n2 c2]] w (WItPost q st x w) :=
  write_any q st x A1 c1 A2 c2 w hW hp h1 (fun hn a ha => by have := hq hn a ha; omega) hl

theorem wBytes_some (q m : Nat) (bs : List UInt8) (w : World) (hW : WR w q (some bs)) (hm : bs.length = m) (hl : m ≤ 1000000000) :
    Calls Try.prog 13 #[.pointer (some ⟨q, 0, none⟩)] w fun e w' => Grew w w' ∧ ∃ B, e = .returned (.tuple #[.slice (some ⟨B, 0, none⟩) m m, .int .i64 0]) ∧ Bys w' (some ⟨B, 0, none⟩) m bs ∧ FreshB w w' (some ⟨B, 0, none⟩) m m := by
  subst hm
  exact (wBytes_any q _ w hW hl).mono fun e w' ⟨hg, B, hB, he, hb, hw⟩ => ⟨hg, B, he, hb, Or.inr ⟨B, rfl, hB, hw⟩⟩
theorem wBytes_none (q : Nat) (w : World) (hW : WR w q none) :
    Calls Try.prog 13 #[.pointer (some ⟨q, 0, none⟩)] w fun e w' => Grew w w' ∧ e = .returned (.tuple #[.slice none 0 0, .int .i64 5]) :=
  wBytes_any q _ w hW (by simp [wLen])

set_option maxRecDepth 100000 in
set_option maxHeartbeats 2000000 in
theorem packWrites_walk (A : Option Addr) (n c : Nat) (l : List It) (w : World) (h : Items w A n l) (hn : n ≤ 9223372036854775807) :
    Calls Try.prog 3 #[.slice A n c] w fun e w' => e = .returned (.bool true) ∧ Grew w w' := by
  have CH := heavy_any A n c l w h hn
  have HI := Lib.hid h
  have HLEN := Lib.hid h.1
  have CW := fun w => wakes04_any w
  clear h
  go_enter Try.func3, Try.ntmps3
  go_wp2_with (go_at_call 10; ((with_reducible refine CH.mono ?_); rintro e w1 ⟨rfl, hh⟩; rcases hh with rfl | ⟨rfl, hs, hl⟩))
  · go_ret
    exact ⟨rfl, grew_refl _⟩
  · have hn2 : n ≤ 200 := by rw [← HLEN.out]; exact hs
    have HL : Hid (∀ j, j < n → LightIt (l.getD j default)) := by rw [HLEN.out] at hl; exact hl
    have HWL := Lib.hid (wAll_len HI.out HL.out)
    have HWANT := Lib.hid (fun w' (g : Grew w w') => want_any A n c l w' (HI.out.keep g) hn2 HL.out)
    clear CH hs hl hn
    have HW0 : Hid (WR (w.alloc (.cells #[.pointer none, .int .i64 0, .int .i64 0] 28)) w.heap.size (some [])) := WR.new w _
    have HG0 : Hid (Grew w (w.alloc (.cells #[.pointer none, .int .i64 0, .int .i64 0] 28))) := grew_alloc _ _ _
    generalize w.alloc (.cells #[.pointer none, .int .i64 0, .int .i64 0] 28) = w0 at *
    go_loopw [4] (fun v4 wr => ∃ k : Nat, v4 = .int .i64 k ∧ k ≤ n ∧ Hid (WR wr w.heap.size (wAll (l.take k))) ∧ Hid (Grew w wr)) (fun v4 _ => n - (intOf v4).toNat)
    case atStart => exact ⟨0, rfl, Nat.zero_le _, HW0, HG0⟩
    case round =>
      clear HW0 HG0
      obtain ⟨k, rfl, hk, HW, HG⟩ := hrel
      by_cases hlt : k < n
      · obtain ⟨b, o, A1, c1, A2, c2, rfl, hp, hold, g0, g1, g2, g3⟩ := HI.out.at HG.out hlt
        have HC := Lib.hid (write_call w.heap.size (wAll (l.take k)) (l.getD k default) A1 c1 A2 c2 wr HW.out hp (HL.out k hlt).1 hold (by have := HWL.out k hk; omega))
        have HS := Lib.hid (wAll_snoc l k (by rw [HLEN.out]; exact hlt))
        clear hp hold
        generalize l.getD k default = x at *
        go_wp2_with (go_at_call 11; ((with_reducible refine HC.out.mono ?_); rintro e w1 ⟨rfl, hr, ht⟩; have HR := Lib.hid hr; have HT := Lib.hid ht; clear hr ht HC))
        go_roundw
        case rel => exact ⟨k + 1, by go_num, by omega, by rw [HS.out]; exact HR, Turn.new HG.out HT.out (Nat.le_refl _)⟩
        case measure => simp only [intOf]; omega
      · obtain rfl : k = n := by omega
        have HWF : Hid (WR wr w.heap.size (wAll l)) := by have := HW.out; rw [take_all HLEN.out] at this; exact this
        have HLF : Hid (wLen (wAll l) ≤ 14000000) := by show _ ≤ _; have := HWL.out k (Nat.le_refl _); rw [take_all HLEN.out] at this; omega
        have HC := Lib.hid (HWANT.out wr HG.out)
        clear HW HWL HWANT HL
        go_upto_region 9 with (go_at_call 12; ((with_reducible refine HC.out.mono ?_); rintro e w1 ⟨v1, ok, bs, rfl, ho, hs, hbl, hg⟩; obtain ⟨A1, c1, rfl, hb1, hA1, _⟩ := bys_of_own ho; have HB1 := Lib.hid hb1; have HG1 := Lib.hid hg; have HS := Lib.hid hs; have HBL := Lib.hid hbl; clear ho hb1 hA1 hs hbl hg))
        rw [HS.out] at HWF HLF
        cases ok with
        | false =>
          have HC2 := Lib.hid (wBytes_none w.heap.size w1 (HWF.out.keep HG1.out))
          clear HWF HS
          go_wp2_with (first
            | (go_at_call 13; ((with_reducible refine HC2.out.mono ?_); rintro e w2 ⟨hg, rfl⟩; have HG2 := Lib.hid hg; clear hg HC2))
            | (go_at_call 14; ((with_reducible refine (CW _).mono ?_); rintro e w3 ⟨rfl, hg⟩; have HG3 := Lib.hid hg; clear hg)))
          go_ret
          exact ⟨rfl, grew_trans HG.out (grew_trans HG1.out (grew_trans HG2.out HG3.out))⟩
        | true =>
          have HW1 : Hid (WR w1 w.heap.size (some bs)) := HWF.out.keep HG1.out
          have hbl := HBL.out
          generalize hm : bs.length = m at *
          have HM := Lib.hid hm
          have HC2 := Lib.hid (wBytes_some w.heap.size m bs w1 HW1.out hm (by omega))
          clear HWF HS hm
          go_upto_region 12 with (go_at_call 13; ((with_reducible refine HC2.out.mono ?_); rintro e w2 ⟨hg, B, rfl, hb, hf⟩; have HG2 := Lib.hid hg; have HB2 := Lib.hid hb; have HF2 := Lib.hid hf; clear hg hb hf HC2))
          have HC3 := Lib.hid (keepBytes_any (some ⟨B, 0, none⟩) A1 m m m c1 bs bs w2 HB2.out (HB1.out.keep HG2.out) (by omega) (by omega))
          rw [decide_eq_true (rfl : bs = bs)] at HC3
          go_upto_region 14 with (go_at_call 15; ((with_reducible refine HC3.out.mono ?_); rintro e w3 ⟨rfl, hg⟩; have HG3 := Lib.hid hg; clear hg HC3))
          have HC4 := Lib.hid (spoilB_any (some ⟨B, 0, none⟩) m m w1 w3 (HF2.out.keep HG3.out) (grew_trans HG2.out HG3.out) (by omega))
          go_upto_region 15 with (go_at_call 16; ((with_reducible refine HC4.out.mono ?_); rintro e w4 ⟨rfl, hg, _⟩; have HG4 := Lib.hid hg; clear hg HC4))
          have HC5 := Lib.hid (wBytes_some w.heap.size m bs w4 (HW1.out.keep HG4.out) HM.out (by omega))
          have HC6 := Lib.hid (fun w5 (B5 : Nat) (g : Grew w4 w5) (hb : Bys w5 (some ⟨B5, 0, none⟩) m bs) => keepBytes_any (some ⟨B5, 0, none⟩) A1 m m m c1 bs bs w5 hb (HB1.out.keep (grew_trans HG4.out g)) (by omega) (by omega))
          rw [decide_eq_true (rfl : bs = bs)] at HC6
          go_wp2_with (first
            | (go_at_call 13; ((with_reducible refine HC5.out.mono ?_); rintro e w5 ⟨hg, B5, rfl, hb, hf⟩; have HG5 := Lib.hid hg; have HC7 := Lib.hid (HC6.out w5 B5 hg hb); clear hg hb hf HC5 HC6))
            | (go_at_call 15; ((with_reducible refine HC7.out.mono ?_); rintro e w6 ⟨rfl, hg⟩; have HG6 := Lib.hid hg; clear hg HC7))
            | (go_at_call 14; ((with_reducible refine (CW _).mono ?_); rintro e w7 ⟨rfl, hg⟩; have HG7 := Lib.hid hg; clear hg)))
          go_ret
          exact ⟨rfl, grew_trans HG.out (grew_trans HG1.out (grew_trans HG4.out (grew_trans HG5.out (grew_trans HG6.out HG7.out))))⟩

theorem packWrites_row (A : Option Addr) (n c : Nat) (l : List ItV) (w : World) (h : Row spItem w A n l) (hn : n ≤ 9223372036854775807) :
    Calls Try.prog 3 #[.slice A n c] w fun e w' => e = .returned (.bool true) ∧ Grew w w' := by
  obtain ⟨xs, hx⟩ := items_of_row h
  exact packWrites_walk A n c xs w hx hn
end Go.Proofs.Ytfhfgninjelfbaa.NumK
