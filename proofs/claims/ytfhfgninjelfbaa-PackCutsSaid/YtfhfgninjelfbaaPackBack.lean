/- The law PackBack. -/
import Derived.Test.YtfhfgninjelfbaaPackRT
import Derived.Test.YtfhfgninjelfbaaPackWrites
import Derived.Deep.CutBlock
namespace Go.Proofs.Ytfhfgninjelfbaa.NumK
open Go.RowKit

/-- The item at a place, in a world that has grown: its slices are older. -/
theorem Items.at2 {w wr : World} {A : Option Addr} {n : Nat} {l : List It} (h : Items w A n l) (g : Grew w wr) {k : Nat} (hk : k < n) : ∃ b o A1 c1 A2 c2, A = some ⟨b, o, none⟩ ∧ Parts wr (l.getD k default) A1 c1 A2 c2 ∧ (0 < (l.getD k default).n1 → ∀ a, A1 = some a → a.block < w.heap.size) ∧ (0 < (l.getD k default).n2 → ∀ a, A2 = some a → a.block < w.heap.size) ∧
    wr.cell? ⟨b, o + k * 4, none⟩ = some (.int .i64 (l.getD k default).K) ∧ wr.cell? ⟨b, o + k * 4 + 1, none⟩ = some (.slice A1 (l.getD k default).n1 c1) ∧ wr.cell? ⟨b, o + k * 4 + 2, none⟩ = some (.bool (l.getD k default).B) ∧ wr.cell? ⟨b, o + k * 4 + 3, none⟩ = some (.slice A2 (l.getD k default).n2 c2) := by
  obtain ⟨b, o, e, hb, hc⟩ := h.2 (by omega)
  obtain ⟨A1, c1, A2, c2, hp, h0, h1, h2, h3⟩ := hc k hk
  exact ⟨b, o, A1, c1, A2, c2, e, hp.keep g, fun hn a ha => hp.old1 a ha hn, fun hn a ha => hp.old2 a ha hn, (grew_cell g (p := ⟨b, o + k * 4, none⟩) hb).trans h0, (grew_cell g (p := ⟨b, o + k * 4 + 1, none⟩) hb).trans h1, (grew_cell g (p := ⟨b, o + k * 4 + 2, none⟩) hb).trans h2, (grew_cell g (p := ⟨b, o + k * 4 + 3, none⟩) hb).trans h3⟩
theorem Items.intsIn {w : World} {A : Option Addr} {n : Nat} {l : List It} (h : Items w A n l) {k : Nat} (hk : k < n) : IntsIn (l.getD k default).L ∧ (l.getD k default).T.length = (l.getD k default).n2 ∧ (l.getD k default).L.length = (l.getD k default).n1 := by
  obtain ⟨b, o, e, hb, hc⟩ := h.2 (by omega)
  obtain ⟨A1, c1, A2, c2, hp, _⟩ := hc k hk
  exact ⟨hp.intsIn, hp.bys.1, hp.ints.1⟩
theorem fit_all {w : World} {A : Option Addr} {n : Nat} {l : List It} (h : Items w A n l) (ht : ∀ j, j < n → (l.getD j default).n2 ≤ 65536) : ∀ x ∈ l, FitIt x := by
  intro x hx
  obtain ⟨j, hj, rfl⟩ := List.getElem_of_mem hx
  have hjn : j < n := by rw [← h.1]; exact hj
  have e : l.getD j default = l[j] := by simp [List.getD, hj]
  have h1 := h.intsIn hjn
  have h2 := ht j hjn
  rw [e] at h1 h2
  exact ⟨by rw [h1.2.1]; exact h2, h1.1⟩

set_option maxRecDepth 100000 in
set_option maxHeartbeats 2000000 in
theorem packBack_walk (A : Option Addr) (n c : Nat) (l : List It) (w : World) (h : Items w A n l) (hn : n ≤ 9223372036854775807) :
    Calls Try.prog 5 #[.slice A n c] w fun e w' => e = .returned (.bool true) ∧ Grew w w' := by
  have CH := heavy_any A n c l w h hn
  have HI := Lib.hid h
  have HLEN := Lib.hid h.1
  have CW := fun w => wakes04_any w
  clear h
  go_enter Try.func5, Try.ntmps5
  go_wp2_with (go_at_call 10; ((with_reducible refine CH.mono ?_); rintro e w1 ⟨rfl, hh⟩; rcases hh with rfl | ⟨rfl, hs, hl⟩))
  · go_ret
    exact ⟨rfl, grew_refl _⟩
  · have hn2 : n ≤ 200 := by rw [← HLEN.out]; exact hs
    have HL : Hid (∀ j, j < n → LightIt (l.getD j default)) := by rw [HLEN.out] at hl; exact hl
    have HWL := Lib.hid (wAll_len HI.out HL.out)
    clear CH hs hl hn
    have HW0 : Hid (WR (w.alloc (.cells #[.pointer none, .int .i64 0, .int .i64 0] 28)) w.heap.size (some [])) := WR.new w _
    have HG0 : Hid (Grew w (w.alloc (.cells #[.pointer none, .int .i64 0, .int .i64 0] 28))) := grew_alloc _ _ _
    generalize w.alloc (.cells #[.pointer none, .int .i64 0, .int .i64 0] 28) = w0 at *
    go_loopw [4] (fun v4 wr => ∃ k : Nat, v4 = .int .i64 k ∧ k ≤ n ∧ Hid (∀ j, j < k → (l.getD j default).n2 ≤ 65536) ∧ Hid (WR wr w.heap.size (wAll (l.take k))) ∧ Hid (Grew w wr)) (fun v4 _ => n - (intOf v4).toNat)
    case atStart => exact ⟨0, rfl, Nat.zero_le _, fun j hj => by omega, HW0, HG0⟩
    case round =>
      clear HW0 HG0
      obtain ⟨k, rfl, hk, HT, HW, HG⟩ := hrel
      by_cases hlt : k < n
      · obtain ⟨b, o, A1, c1, A2, c2, rfl, hp, hold, g0, g1, g2, g3⟩ := HI.out.at HG.out hlt
        have HC := Lib.hid (write_call w.heap.size (wAll (l.take k)) (l.getD k default) A1 c1 A2 c2 wr HW.out hp (HL.out k hlt).1 hold (by have := HWL.out k hk; omega))
        have HS := Lib.hid (wAll_snoc l k (by rw [HLEN.out]; exact hlt))
        have m2 := hp.le2
        have HTN : Hid ((l.getD k default).n2 ≤ 65536 → ∀ j, j < k + 1 → (l.getD j default).n2 ≤ 65536) := fun hx j hj => by
          by_cases e : j = k
          · subst e; exact hx
          · exact HT.out j (by omega)
        clear hp hold
        generalize l.getD k default = x at *
        by_cases ht : 65536 < x.n2
        · have d : (65536 : Int) < (x.n2 : Int) := by omega
          go_wp2
          go_ret
          exact ⟨rfl, HG.out⟩
        · have d : ¬ (65536 : Int) < (x.n2 : Int) := by omega
          have HTT := Lib.hid (HTN.out (by omega))
          go_wp2_with (go_at_call 11; ((with_reducible refine HC.out.mono ?_); rintro e w1 ⟨rfl, hr, ht⟩; have HR := Lib.hid hr; have HT2 := Lib.hid ht; clear hr ht HC))
          go_roundw
          case rel => exact ⟨k + 1, by go_num, by omega, HTT, by rw [HS.out]; exact HR, Turn.new HG.out HT2.out (Nat.le_refl _)⟩
          case measure => simp only [intOf]; omega
      · obtain rfl : k = n := by omega
        have HFIT := Lib.hid (fit_all HI.out HT.out)
        have HWF : Hid (WR wr w.heap.size (some (encAll l))) := by have := HW.out; rw [take_all HLEN.out, wAll_fit HFIT.out] at this; exact this
        have HLF : Hid ((encAll l).length ≤ 14000000) := by show _ ≤ _; have := HWL.out k (Nat.le_refl _); rw [take_all HLEN.out, wAll_fit HFIT.out] at this; simp [wLen] at this; omega
        have hm : ∃ m, m = (encAll l).length := ⟨_, rfl⟩
        obtain ⟨m, hm⟩ := hm
        have hml : m ≤ 14000000 := by rw [hm]; exact HLF.out
        have HC2 := Lib.hid (wBytes_some w.heap.size m (encAll l) wr HWF.out hm.symm (by omega))
        clear HW HWL HL HWF HLF hm
        go_upto_region 14 with (first
          | (go_at_call 13; ((with_reducible refine HC2.out.mono ?_); rintro e w2 ⟨hg, B, rfl, hb, hf⟩; have HG2 := Lib.hid (grew_trans HG.out hg); have C3 := Lib.hid (newReader_any (some ⟨B, 0, none⟩) m m (encAll l) w2 hb (fun h => by cases h) (by omega)); clear hg hb hf HC2))
          | (go_at_call 18; ((with_reducible refine C3.out.mono ?_); rintro e w3 ⟨rfl, hr, hg⟩; have HR3 := Lib.hid hr; have HG3 := Lib.hid (grew_trans HG2.out hg); clear hr hg C3)))
        have hwp : w.heap.size ≤ w2.heap.size := HG2.out.size
        generalize w2.heap.size = p at *
        go_wp2
        go_loopw [8] (fun v8 wx => ∃ j : Nat, v8 = .int .i64 j ∧ j ≤ k ∧ Hid (RD wx p ⟨encAll (l.drop j), 0⟩) ∧ Hid (Grew w wx)) (fun v8 _ => k - (intOf v8).toNat)
        case atStart => exact ⟨0, rfl, Nat.zero_le _, HR3, HG3⟩
        case round =>
          clear HR3 HG3
          obtain ⟨j, rfl, hj, HR, HGX⟩ := hrel
          by_cases hlt2 : j < k
          · obtain ⟨b, o, A1, c1, A2, c2, rfl, hp, hold1, hold2, g0, g1, g2, g3⟩ := HI.out.at2 HGX.out hlt2
            have HC := Lib.hid (got_any p ⟨encAll (l.drop j), 0⟩ (l.getD j default) A1 c1 A2 c2 wr HR.out hp (fun hn a ha => by have := hold1 hn a ha; omega) (fun hn a ha => by have := hold2 hn a ha; omega))
            rw [gotS_drop (by rw [HLEN.out]; exact hlt2) HFIT.out] at HC
            clear hp hold1 hold2
            generalize l.getD j default = x at *
            go_wp2_with (go_at_call 27; ((with_reducible refine HC.out.mono ?_); rintro e w5 ⟨rfl, hr, ht⟩; have HR5 := Lib.hid hr; have HT5 := Lib.hid ht; clear hr ht HC))
            go_roundw
            case rel => exact ⟨j + 1, by go_num, by omega, HR5, Turn.new HGX.out HT5.out hwp⟩
            case measure => simp only [intOf]; omega
          · obtain rfl : j = k := by omega
            have hE : encAll (l.drop j) = [] := by rw [List.drop_of_length_le (by rw [HLEN.out]; omega)]; rfl
            have HRZ : Hid (RD wr p ⟨[], 0⟩) := by have := HR.out; rw [hE] at this; exact this
            have DN := Lib.hid (done_any p ⟨[], 0⟩ wr HRZ.out)
            rw [(rD_left []).2 rfl] at DN
            clear hE
            go_wp2_with (first
              | (go_at_call 25; ((with_reducible refine DN.out.mono ?_); rintro e w8 ⟨rfl, rfl⟩))
              | (go_at_call 14; ((with_reducible refine (CW _).mono ?_); rintro e w7 ⟨rfl, hg⟩; have HG7 := Lib.hid hg; clear hg)))
            go_ret
            exact ⟨rfl, grew_trans HGX.out HG7.out⟩

theorem packBack_row (A : Option Addr) (n c : Nat) (l : List ItV) (w : World) (h : Row spItem w A n l) (hn : n ≤ 9223372036854775807) :
    Calls Try.prog 5 #[.slice A n c] w fun e w' => e = .returned (.bool true) ∧ Grew w w' := by
  obtain ⟨xs, hx⟩ := items_of_row h
  exact packBack_walk A n c xs w hx hn
end Go.Proofs.Ytfhfgninjelfbaa.NumK
