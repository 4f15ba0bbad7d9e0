/- The law EntryPays. -/
import Derived.Test.YtmbhkeppikaeaaaEntryMoves
namespace Go.Proofs.Ytmbhkeppikaeaaa.NumK
open Go.RowKit

theorem cap_zero (z : Int) : capV z = 0 ↔ z = 0 ∨ z < -4611686018427387904 ∨ 4611686018427387904 < z := by
  unfold capV
  have := isMoney_iff z
  by_cases h : isMoney z = true
  · rw [if_pos h]; have := this.1 h; omega
  · rw [if_neg h]
    constructor
    · intro _
      have h2 : ¬ (-4611686018427387904 ≤ z ∧ z ≤ 4611686018427387904) := fun hh => h (this.2 hh)
      omega
    · intro _; rfl

set_option maxRecDepth 100000 in
set_option maxHeartbeats 4000000 in
theorem entryPays_walk (a1 a2 a3 b1 b2 b3 z : Int) (w : World) :
    Calls Try.prog 7 #[acV a1 a2 a3, acV b1 b2 b3, .int .i64 z] w fun e w' => e = .returned (.bool true) ∧ Grew w w' := by
  have CM := fun w => move_any a1 a2 a3 b1 b2 b3 z w
  have CC := fun A w (h : RowE enLg w A 2 (moveL (a1, a2, a3) (b1, b2, b3) z)) => check_any A 2 2 _ w h (by omega)
  have CR1 := fun w => r8right_any a1 a2 a3 w
  have CR2 := fun w => r8right_any b1 b2 b3 w
  have WK := fun w => wakes09_any w
  have HA := Lib.hid (check_move_arg (a1, a2, a3) (b1, b2, b3) z)
  have HB := Lib.hid (check_move (a1, a2, a3) (b1, b2, b3) z)
  have HZ := Lib.hid (cap_zero z)
  dsimp only at HA HB
  generalize checkE (moveL (a1, a2, a3) (b1, b2, b3) z) = E at *
  generalize moveL (a1, a2, a3) (b1, b2, b3) z = ML at *
  generalize rightA a1 a2 a3 = RA at *
  generalize rightA b1 b2 b3 = RB at *
  generalize capV z = cz at *
  unfold acV at *
  go_enter Try.func7, Try.ntmps7
  go_wp2_with fail
  have H00 : w.heap.size < ((w.alloc (.cells #[.int .i64 a1, .int .i64 a2, .int .i64 a3] 35)).alloc (.cells #[.int .i64 b1, .int .i64 b2, .int .i64 b3] 35)).heap.size ∧ w.heap.size + 1 < ((w.alloc (.cells #[.int .i64 a1, .int .i64 a2, .int .i64 a3] 35)).alloc (.cells #[.int .i64 b1, .int .i64 b2, .int .i64 b3] 35)).heap.size := ⟨by simp; omega, by simp⟩
  have G00 : Hid (Grew w ((w.alloc (.cells #[.int .i64 a1, .int .i64 a2, .int .i64 a3] 35)).alloc (.cells #[.int .i64 b1, .int .i64 b2, .int .i64 b3] 35))) := grew_trans (grew_alloc _ _ _) (grew_alloc _ _ _)
  have H01 := two_cells (grew_refl ((w.alloc (.cells #[.int .i64 a1, .int .i64 a2, .int .i64 a3] 35)).alloc (.cells #[.int .i64 b1, .int .i64 b2, .int .i64 b3] 35)))
  generalize (w.alloc (.cells #[.int .i64 a1, .int .i64 a2, .int .i64 a3] 35)).alloc (.cells #[.int .i64 b1, .int .i64 b2, .int .i64 b3] 35) = w0 at G00 H00 H01 ⊢
  have HC : Hid (w.heap.size < w0.heap.size ∧ w.heap.size + 1 < w0.heap.size ∧ w0.cell? ⟨w.heap.size, 0, none⟩ = some (.int .i64 a1) ∧ w0.cell? ⟨w.heap.size, 1, none⟩ = some (.int .i64 a2) ∧ w0.cell? ⟨w.heap.size, 2, none⟩ = some (.int .i64 a3) ∧ w0.cell? ⟨w.heap.size + 1, 0, none⟩ = some (.int .i64 b1) ∧ w0.cell? ⟨w.heap.size + 1, 1, none⟩ = some (.int .i64 b2) ∧ w0.cell? ⟨w.heap.size + 1, 2, none⟩ = some (.int .i64 b3)) :=
    ⟨H00.1, H00.2, H01.1 0, H01.1 1, H01.1 2, H01.2.1 0, H01.2.1 1, H01.2.1 2⟩
  clear H00 H01
  cases RA
  · have hE := HA.out (Or.inl rfl)
    subst hE
    clear HA HB HZ CR2
    go_wp2_with (first
          | (go_at_call 19; ((with_reducible refine (CM _).mono ?_); rintro e w1 ⟨A1, rfl, hr, hg⟩; have HR := Lib.hid hr; have G1 := Lib.hid hg; clear hr hg))
          | (go_at_call 10; ((with_reducible refine (CC _ _ HR.out).mono ?_); rintro e w2 ⟨rfl, hg⟩; have G2 := Lib.hid (grew_trans G1.out hg); clear hg; obtain ⟨x1, x2, x3, y1, y2, y3⟩ := keep6 G2.out HC.out))
          | (go_at_call 21; ((with_reducible refine (CR1 _).mono ?_); rintro e w3 ⟨rfl, hg⟩; have G3 := Lib.hid (grew_trans G2.out hg); clear hg; obtain ⟨x1', x2', x3', y1', y2', y3'⟩ := keep6 G3.out HC.out))
          | (go_at_call 21; ((with_reducible refine (CR2 _).mono ?_); rintro e w4 ⟨rfl, hg⟩; have G4 := Lib.hid (grew_trans G3.out hg); clear hg; obtain ⟨x1'', x2'', x3'', y1'', y2'', y3''⟩ := keep6 G4.out HC.out))
          | (go_at_call 16; ((with_reducible refine (WK _).mono ?_); rintro e w5 ⟨rfl, hg⟩; have G5 := Lib.hid (grew_trans G3.out hg); clear hg)))
    go_ret
    exact ⟨rfl, grew_trans G00.out G5.out⟩
  · cases RB
    · have hE := HA.out (Or.inr rfl)
      subst hE
      clear HA HB HZ
      go_wp2_with (first
            | (go_at_call 19; ((with_reducible refine (CM _).mono ?_); rintro e w1 ⟨A1, rfl, hr, hg⟩; have HR := Lib.hid hr; have G1 := Lib.hid hg; clear hr hg))
            | (go_at_call 10; ((with_reducible refine (CC _ _ HR.out).mono ?_); rintro e w2 ⟨rfl, hg⟩; have G2 := Lib.hid (grew_trans G1.out hg); clear hg; obtain ⟨x1, x2, x3, y1, y2, y3⟩ := keep6 G2.out HC.out))
            | (go_at_call 21; ((with_reducible refine (CR1 _).mono ?_); rintro e w3 ⟨rfl, hg⟩; have G3 := Lib.hid (grew_trans G2.out hg); clear hg; obtain ⟨x1', x2', x3', y1', y2', y3'⟩ := keep6 G3.out HC.out))
            | (go_at_call 21; ((with_reducible refine (CR2 _).mono ?_); rintro e w4 ⟨rfl, hg⟩; have G4 := Lib.hid (grew_trans G3.out hg); clear hg; obtain ⟨x1'', x2'', x3'', y1'', y2'', y3''⟩ := keep6 G4.out HC.out))
            | (go_at_call 16; ((with_reducible refine (WK _).mono ?_); rintro e w5 ⟨rfl, hg⟩; have G5 := Lib.hid (grew_trans G4.out hg); clear hg)))
      go_ret
      exact ⟨rfl, grew_trans G00.out G5.out⟩
    · have HE := Lib.hid (HB.out rfl rfl)
      clear HA HB
      by_cases z1 : z < -4611686018427387904
      · have hE : E = 0 := by rw [HE.out, if_pos (Or.inr (HZ.out.2 (Or.inr (Or.inl z1))))]
        subst hE
        clear HE HZ
        go_wp2_with (first
              | (go_at_call 19; ((with_reducible refine (CM _).mono ?_); rintro e w1 ⟨A1, rfl, hr, hg⟩; have HR := Lib.hid hr; have G1 := Lib.hid hg; clear hr hg))
              | (go_at_call 10; ((with_reducible refine (CC _ _ HR.out).mono ?_); rintro e w2 ⟨rfl, hg⟩; have G2 := Lib.hid (grew_trans G1.out hg); clear hg; obtain ⟨x1, x2, x3, y1, y2, y3⟩ := keep6 G2.out HC.out))
              | (go_at_call 21; ((with_reducible refine (CR1 _).mono ?_); rintro e w3 ⟨rfl, hg⟩; have G3 := Lib.hid (grew_trans G2.out hg); clear hg; obtain ⟨x1', x2', x3', y1', y2', y3'⟩ := keep6 G3.out HC.out))
              | (go_at_call 21; ((with_reducible refine (CR2 _).mono ?_); rintro e w4 ⟨rfl, hg⟩; have G4 := Lib.hid (grew_trans G3.out hg); clear hg; obtain ⟨x1'', x2'', x3'', y1'', y2'', y3''⟩ := keep6 G4.out HC.out))
              | (go_at_call 16; ((with_reducible refine (WK _).mono ?_); rintro e w5 ⟨rfl, hg⟩; have G5 := Lib.hid (grew_trans G4.out hg); clear hg)))
        go_ret
        exact ⟨rfl, grew_trans G00.out G5.out⟩
      · by_cases z2 : 4611686018427387904 < z
        · have hE : E = 0 := by rw [HE.out, if_pos (Or.inr (HZ.out.2 (Or.inr (Or.inr z2))))]
          subst hE
          clear HE HZ
          go_wp2_with (first
                | (go_at_call 19; ((with_reducible refine (CM _).mono ?_); rintro e w1 ⟨A1, rfl, hr, hg⟩; have HR := Lib.hid hr; have G1 := Lib.hid hg; clear hr hg))
                | (go_at_call 10; ((with_reducible refine (CC _ _ HR.out).mono ?_); rintro e w2 ⟨rfl, hg⟩; have G2 := Lib.hid (grew_trans G1.out hg); clear hg; obtain ⟨x1, x2, x3, y1, y2, y3⟩ := keep6 G2.out HC.out))
                | (go_at_call 21; ((with_reducible refine (CR1 _).mono ?_); rintro e w3 ⟨rfl, hg⟩; have G3 := Lib.hid (grew_trans G2.out hg); clear hg; obtain ⟨x1', x2', x3', y1', y2', y3'⟩ := keep6 G3.out HC.out))
                | (go_at_call 21; ((with_reducible refine (CR2 _).mono ?_); rintro e w4 ⟨rfl, hg⟩; have G4 := Lib.hid (grew_trans G3.out hg); clear hg; obtain ⟨x1'', x2'', x3'', y1'', y2'', y3''⟩ := keep6 G4.out HC.out))
                | (go_at_call 16; ((with_reducible refine (WK _).mono ?_); rintro e w5 ⟨rfl, hg⟩; have G5 := Lib.hid (grew_trans G4.out hg); clear hg)))
          go_ret
          exact ⟨rfl, grew_trans G00.out G5.out⟩
        · by_cases z3 : a3 = b3
          · have hE : E = 0 := by rw [HE.out, if_pos (Or.inl z3)]
            subst hE z3
            clear HE HZ
            go_wp2_with (first
                  | (go_at_call 19; ((with_reducible refine (CM _).mono ?_); rintro e w1 ⟨A1, rfl, hr, hg⟩; have HR := Lib.hid hr; have G1 := Lib.hid hg; clear hr hg))
                  | (go_at_call 10; ((with_reducible refine (CC _ _ HR.out).mono ?_); rintro e w2 ⟨rfl, hg⟩; have G2 := Lib.hid (grew_trans G1.out hg); clear hg; obtain ⟨x1, x2, x3, y1, y2, y3⟩ := keep6 G2.out HC.out))
                  | (go_at_call 21; ((with_reducible refine (CR1 _).mono ?_); rintro e w3 ⟨rfl, hg⟩; have G3 := Lib.hid (grew_trans G2.out hg); clear hg; obtain ⟨x1', x2', x3', y1', y2', y3'⟩ := keep6 G3.out HC.out))
                  | (go_at_call 21; ((with_reducible refine (CR2 _).mono ?_); rintro e w4 ⟨rfl, hg⟩; have G4 := Lib.hid (grew_trans G3.out hg); clear hg; obtain ⟨x1'', x2'', x3'', y1'', y2'', y3''⟩ := keep6 G4.out HC.out))
                  | (go_at_call 16; ((with_reducible refine (WK _).mono ?_); rintro e w5 ⟨rfl, hg⟩; have G5 := Lib.hid (grew_trans G4.out hg); clear hg)))
            go_ret
            exact ⟨rfl, grew_trans G00.out G5.out⟩
          · have d3 : (a3 == b3) = false := by simpa using z3
            by_cases z4 : z = 0
            · have hE : E = 0 := by rw [HE.out, if_pos (Or.inr (HZ.out.2 (Or.inl z4)))]
              subst hE z4
              clear HE HZ z1 z2 z3
              go_wp2_with (first
                    | (go_at_call 19; ((with_reducible refine (CM _).mono ?_); rintro e w1 ⟨A1, rfl, hr, hg⟩; have HR := Lib.hid hr; have G1 := Lib.hid hg; clear hr hg))
                    | (go_at_call 10; ((with_reducible refine (CC _ _ HR.out).mono ?_); rintro e w2 ⟨rfl, hg⟩; have G2 := Lib.hid (grew_trans G1.out hg); clear hg; obtain ⟨x1, x2, x3, y1, y2, y3⟩ := keep6 G2.out HC.out))
                    | (go_at_call 21; ((with_reducible refine (CR1 _).mono ?_); rintro e w3 ⟨rfl, hg⟩; have G3 := Lib.hid (grew_trans G2.out hg); clear hg; obtain ⟨x1', x2', x3', y1', y2', y3'⟩ := keep6 G3.out HC.out))
                    | (go_at_call 21; ((with_reducible refine (CR2 _).mono ?_); rintro e w4 ⟨rfl, hg⟩; have G4 := Lib.hid (grew_trans G3.out hg); clear hg; obtain ⟨x1'', x2'', x3'', y1'', y2'', y3''⟩ := keep6 G4.out HC.out))
                    | (go_at_call 16; ((with_reducible refine (WK _).mono ?_); rintro e w5 ⟨rfl, hg⟩; have G5 := Lib.hid (grew_trans G4.out hg); clear hg)))
              go_ret
              exact ⟨rfl, grew_trans G00.out G5.out⟩
            · have hE : E = 12 := by rw [HE.out, if_neg (fun h => by rcases h with h | h; exact z3 h; have := HZ.out.1 h; omega)]
              subst hE
              have d4 : (z == 0) = false := by simpa using z4
              clear HE HZ z3 z4
              go_wp2_with (first
                    | (go_at_call 19; ((with_reducible refine (CM _).mono ?_); rintro e w1 ⟨A1, rfl, hr, hg⟩; have HR := Lib.hid hr; have G1 := Lib.hid hg; clear hr hg))
                    | (go_at_call 10; ((with_reducible refine (CC _ _ HR.out).mono ?_); rintro e w2 ⟨rfl, hg⟩; have G2 := Lib.hid (grew_trans G1.out hg); clear hg; obtain ⟨x1, x2, x3, y1, y2, y3⟩ := keep6 G2.out HC.out))
                    | (go_at_call 21; ((with_reducible refine (CR1 _).mono ?_); rintro e w3 ⟨rfl, hg⟩; have G3 := Lib.hid (grew_trans G2.out hg); clear hg; obtain ⟨x1', x2', x3', y1', y2', y3'⟩ := keep6 G3.out HC.out))
                    | (go_at_call 21; ((with_reducible refine (CR2 _).mono ?_); rintro e w4 ⟨rfl, hg⟩; have G4 := Lib.hid (grew_trans G3.out hg); clear hg; obtain ⟨x1'', x2'', x3'', y1'', y2'', y3''⟩ := keep6 G4.out HC.out))
                    | (go_at_call 16; ((with_reducible refine (WK _).mono ?_); rintro e w5 ⟨rfl, hg⟩; have G5 := Lib.hid (grew_trans G4.out hg); clear hg)))
              go_ret
              exact ⟨rfl, grew_trans G00.out G5.out⟩
end Go.Proofs.Ytmbhkeppikaeaaa.NumK
