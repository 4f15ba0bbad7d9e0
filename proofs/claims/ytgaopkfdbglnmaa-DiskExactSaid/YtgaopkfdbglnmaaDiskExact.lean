/- DiskExact. -/
import Derived.Test.YtgaopkfdbglnmaaDxC
namespace Go.Proofs.Ytgaopkfdbglnmaa.NumK
open Go.RowKit

set_option maxRecDepth 100000 in
set_option maxHeartbeats 4000000 in
theorem diskExact_walk (n : Int) (A1 : Option Addr) (n1 c1 : Nat) (l : List Ac) (W : World) (hA : Acts W A1 n1 l) :
    Calls Try.prog 3 #[.int .i64 n, .slice A1 n1 c1] W fun e w' => e = .returned (.bool true) ∧ Grew W w' := by
  have HA := Lib.hid hA
  have CH := Lib.hid (heavy_any A1 n1 c1 l W hA)
  have CW := Lib.hid (fun w => wakes06_any w)
  clear hA
  by_cases h1 : n < 1 ∨ 65536 < n
  · have CN := Lib.hid (fun w => new_not n w h1)
    by_cases h2 : n < 1
    · clear h1
      go_enter Try.func3, Try.ntmps3
      go_wp2_with (first
        | (go_at_call 9; ((with_reducible refine CH.out.mono ?_); rintro e w1 ⟨⟨hv, rfl⟩, hg⟩; have G1 := Lib.hid hg; clear hg; cases hv))
        | (go_at_call 10; ((with_reducible refine (CN.out _).mono ?_); rintro e w2 ⟨rfl, rfl⟩))
        | (go_at_call 11; ((with_reducible refine (CW.out _).mono ?_); rintro e w3 ⟨rfl, hg⟩; have G2 := Lib.hid (grew_trans G1.out hg); clear hg)))
      all_goals go_ret
      · exact ⟨rfl, G2.out⟩
      · exact ⟨rfl, G1.out⟩
    · have h3 : 65536 < n := by omega
      clear h1
      go_enter Try.func3, Try.ntmps3
      go_wp2_with (first
        | (go_at_call 9; ((with_reducible refine CH.out.mono ?_); rintro e w1 ⟨⟨hv, rfl⟩, hg⟩; have G1 := Lib.hid hg; clear hg; cases hv))
        | (go_at_call 10; ((with_reducible refine (CN.out _).mono ?_); rintro e w2 ⟨rfl, rfl⟩))
        | (go_at_call 11; ((with_reducible refine (CW.out _).mono ?_); rintro e w3 ⟨rfl, hg⟩; have G2 := Lib.hid (grew_trans G1.out hg); clear hg)))
      all_goals go_ret
      · exact ⟨rfl, G2.out⟩
      · exact ⟨rfl, G1.out⟩
  · obtain ⟨m, rfl⟩ : ∃ m : Nat, n = (m : Int) := ⟨n.toNat, by omega⟩
    have CN := Lib.hid (fun w => new_any m w (by omega) (by omega))
    have q1 : ¬ (m : Int) < 1 := by omega
    have q2 : ¬ (65536 : Int) < (m : Int) := by omega
    have hm1 : 1 ≤ m := by omega
    have hm2 : m ≤ 65536 := by omega
    clear h1
    by_cases h3 : 1000 < m
    · have q3 : (1000 : Int) < (m : Int) := by omega
      clear hm1 hm2 h3
      go_enter Try.func3, Try.ntmps3
      go_wp2_with (first
        | (go_at_call 9; ((with_reducible refine CH.out.mono ?_); rintro e w1 ⟨⟨hv, rfl⟩, hg⟩; have G1 := Lib.hid hg; clear hg; cases hv))
        | (go_at_call 10; ((with_reducible refine (CN.out _).mono ?_); rintro e w2 hp; obtain ⟨d, rfl, hd, hg⟩ := di_new (N := fun _ => False) G1.out (fun _ h => h.elim) hp; have D0 := Lib.hid hd; clear hd hg hp))
        | (go_at_call 11; ((with_reducible refine (CW.out _).mono ?_); rintro e w3 ⟨rfl, hg⟩; have G2 := Lib.hid (grew_trans D0.out.grew hg); clear hg)))
      all_goals go_ret
      · exact ⟨rfl, G2.out⟩
      · exact ⟨rfl, G1.out⟩
    · have q3 : ¬ (1000 : Int) < (m : Int) := by omega
      have CR := Lib.hid (fun w => rnew_any m w (by omega) (by omega))
      go_enter Try.func3, Try.ntmps3
      go_wp2_with (first
        | (go_at_call 9; ((with_reducible refine CH.out.mono ?_); rintro e w1 ⟨⟨hv, rfl⟩, hg⟩; have G1 := Lib.hid hg; clear hg; cases hv))
        | (go_at_call 10; ((with_reducible refine (CN.out _).mono ?_); rintro e w2 hp; obtain ⟨d, rfl, hd, hg⟩ := di_new (N := fun _ => False) G1.out (fun _ h => h.elim) hp; have D0 := Lib.hid hd; clear hd hg hp))
        | (go_at_call 12; ((with_reducible refine (CR.out _).mono ?_); rintro e w3 hp; obtain ⟨r, rfl, hd⟩ := dx_new D0.out hp; have D1 := Lib.hid hd; clear hd hp)))
      rotate_left
      · go_ret
        exact ⟨rfl, G1.out⟩
      clear D0 CN CR CH G1
      go_loopw [8] (fun v8 wr => ∃ (k : Nat) (s : DS), v8 = .int .i64 k ∧ k ≤ n1 ∧ k ≤ 300 ∧ Hid (DX (fun _ => False) W wr d s r s) ∧ Hid (s.safe.length = m) ∧ Hid (s.opn.length ≤ k)) (fun v8 _ => n1 - (intOf v8).toNat)
      case atStart => exact ⟨0, _, rfl, Nat.zero_le _, Nat.zero_le _, D1.out, by show _ = _; simp [dNew], by show 0 ≤ _; omega⟩
      case round =>
        obtain ⟨k, s, rfl, hk, hk2, HD, HL, HO⟩ := hrel
        clear D1
        go_upto_region 10 with fail
        go_cut [64] from 57 to 100 (fun s64 wx => s64 = .bool (decide (k < n1 ∧ k < 300)) ∧ wr = wx)
        case first =>
          by_cases p1 : k < n1
          · have p1' : (k : Int) < (n1 : Int) := by omega
            by_cases p2 : k < 300
            · have p2' : (k : Int) < 300 := by omega
              have hd : decide (k < n1 ∧ k < 300) = true := decide_eq_true ⟨p1, p2⟩
              go_wp2
              go_meet
              case rel => exact ⟨by first | rw [hd] | (rw [hd]; rfl) | rfl | (rw [decide_eq_false (by omega)]), rfl⟩
            · have p2' : ¬ (k : Int) < 300 := by omega
              have hd : decide (k < n1 ∧ k < 300) = false := decide_eq_false (by omega)
              go_wp2
              go_meet
              case rel => exact ⟨by first | rw [hd] | (rw [hd]; rfl) | rfl | (rw [decide_eq_false (by omega)]), rfl⟩
          · have p1' : ¬ (k : Int) < (n1 : Int) := by omega
            have hd : decide (k < n1 ∧ k < 300) = false := decide_eq_false (by omega)
            go_wp2
            go_meet
            case rel => exact ⟨by first | rw [hd] | (rw [hd]; rfl) | rfl | (rw [decide_eq_false (by omega)]), rfl⟩
        case rest =>
          obtain ⟨rfl, rfl⟩ := hcut
          cases hd : decide (k < n1 ∧ k < 300) with
          | true =>
            obtain ⟨p1, p2⟩ := of_decide_eq_true hd
            obtain ⟨b, o, rfl, hb, hc⟩ := HA.out.2 (by omega)
            obtain ⟨A4, n4, c4, hI, hn4, hK, hAt, g0, g1, g2, g3⟩ := hc k p1
            obtain ⟨x, hx⟩ : ∃ x, l.getD k default = x := ⟨_, rfl⟩
            rw [hx] at hI hK hAt g0 g1 g2
            have p1' : (k : Int) < (n1 : Int) := by omega
            have p0' : (0 : Int) ≤ (k : Int) := Int.natCast_nonneg _
            have HS4 : Hid (∀ w', Grew W w' → w'.cell? ⟨b, o + k * 4, none⟩ = some (.int .i64 x.K) ∧ w'.cell? ⟨b, o + k * 4 + 1, none⟩ = some (.int .i64 x.At) ∧ w'.cell? ⟨b, o + k * 4 + 2, none⟩ = some (.int .u8 (x.B.toNat : Int)) ∧ w'.cell? ⟨b, o + k * 4 + 3, none⟩ = some (.slice A4 n4 c4)) := fun w' g =>
              ⟨(grew_cell g (p := ⟨b, o + k * 4, none⟩) hb).trans g0, (grew_cell g (p := ⟨b, o + k * 4 + 1, none⟩) hb).trans g1, (grew_cell g (p := ⟨b, o + k * 4 + 2, none⟩) hb).trans g2, (grew_cell g (p := ⟨b, o + k * 4 + 3, none⟩) hb).trans g3⟩
            have KD : Hid (Calls Try.prog 13 #[.pointer (some ⟨d, 0, none⟩), .pointer (some ⟨r, 0, none⟩), .agg #[.int .i64 x.K, .int .i64 x.At, .int .u8 (x.B.toNat : Int), .slice A4 n4 c4], .int .i64 (k : Int)] wr.drew (DoPost (fun _ => False) W d r (doS s x k))) :=
              do_any (HD.out.grows (grew_drew (grew_refl _))) (by have := HO.out; omega) (by omega) hI hn4 hAt.2
            have HL6 : Hid ((doS s x k).safe.length = m) := (doS_safe s x k).trans HL.out
            have HO6 : Hid ((doS s x k).opn.length ≤ k + 1) := Nat.le_trans (doS_opn s x k) (by have := HO.out; omega)
            have g4 := HD.out.grew
            clear hc hI hK hAt g0 g1 g2 g3 hb hx HD HL HO
            obtain ⟨s6, hs6⟩ : ∃ s6, doS s x k = s6 := ⟨_, rfl⟩
            rw [hs6] at KD HL6 HO6
            clear hs6
            have hs0 := HS4.out wr g4
            go_upto_region 12 with fail
            refine wp_region_held_drew (S := fun w' => w'.cell? ⟨b, o + k * 4, none⟩ = some (.int .i64 x.K) ∧ w'.cell? ⟨b, o + k * 4 + 1, none⟩ = some (.int .i64 x.At) ∧ w'.cell? ⟨b, o + k * 4 + 2, none⟩ = some (.int .u8 (x.B.toNat : Int)) ∧ w'.cell? ⟨b, o + k * 4 + 3, none⟩ = some (.slice A4 n4 c4)) (by kernel_rfl) hs0 (fun hHeld => ?_)
            -- REGION12
            (refine wpAnyH_take (i := 0) (oi := { dst := some 67, op := Op.move (Operand.tmp 5), type := 24, pos := "law.go:100", after := #[], guard := none }) (v := ?_) rfl (by kernel_rfl) (by kernel_rfl) (by kernel_rfl) (fun _ _ _ h => h) (Or.inl ⟨by rfl, ?_⟩) (by assumption) ?_; rotate_left; · (intro w hSw; (try dsimp only at hSw); go_simp; (first | done | with_reducible rfl)))
            try simp only [Act.put, List.setIfInBounds_toArray, List.set_cons_zero, List.set_cons_succ]
            (refine wpAnyH_take (i := 1) (oi := { dst := some 68, op := Op.move (Operand.tmp 7), type := 29, pos := "law.go:100", after := #[], guard := none }) (v := ?_) rfl (by kernel_rfl) (by kernel_rfl) (by kernel_rfl) (fun _ _ _ h => h) (Or.inl ⟨by rfl, ?_⟩) (by assumption) ?_; rotate_left; · (intro w hSw; (try dsimp only at hSw); go_simp; (first | done | with_reducible rfl)))
            try simp only [Act.put, List.setIfInBounds_toArray, List.set_cons_zero, List.set_cons_succ]
            (refine wpAnyH_take (i := 2) (oi := { dst := some 69, op := Op.move (Operand.tmp 1), type := 22, pos := "law.go:100", after := #[], guard := none }) (v := ?_) rfl (by kernel_rfl) (by kernel_rfl) (by kernel_rfl) (fun _ _ _ h => h) (Or.inl ⟨by rfl, ?_⟩) (by assumption) ?_; rotate_left; · (intro w hSw; (try dsimp only at hSw); go_simp; (first | done | with_reducible rfl)))
            try simp only [Act.put, List.setIfInBounds_toArray, List.set_cons_zero, List.set_cons_succ]
            (refine wpAnyH_take (i := 3) (oi := { dst := some 70, op := Op.move (Operand.tmp 8), type := 3, pos := "law.go:100", after := #[], guard := none }) (v := ?_) rfl (by kernel_rfl) (by kernel_rfl) (by kernel_rfl) (fun _ _ _ h => h) (Or.inl ⟨by rfl, ?_⟩) (by assumption) ?_; rotate_left; · (intro w hSw; (try dsimp only at hSw); go_simp; (first | done | with_reducible rfl)))
            try simp only [Act.put, List.setIfInBounds_toArray, List.set_cons_zero, List.set_cons_succ]
            (refine wpAnyH_take (i := 4) (oi := { dst := some 71, op := Op.indexAddr 22 (Operand.tmp 69) (Operand.tmp 70), type := 0, pos := "law.go:100", after := #[{ on := 2, ground := Ground.data }, { on := 3, ground := Ground.data }], guard := none }) (v := ?_) rfl (by kernel_rfl) (by kernel_rfl) (by kernel_rfl) (fun _ _ _ h => h) (Or.inl ⟨by rfl, ?_⟩) (by assumption) ?_; rotate_left; · (intro w hSw; (try dsimp only at hSw); go_simp; (first | done | with_reducible rfl)))
            try simp only [Act.put, List.setIfInBounds_toArray, List.set_cons_zero, List.set_cons_succ]
            (refine wpAnyH_take (i := 5) (oi := { dst := some 72, op := Op.load 34 (Operand.tmp 71), type := 34, pos := "law.go:100", after := #[{ on := 4, ground := Ground.data }], guard := none }) (v := ?_) rfl (by kernel_rfl) (by kernel_rfl) (by kernel_rfl) (fun _ _ _ h => h) (Or.inl ⟨by rfl, ?_⟩) (by assumption) ?_; rotate_left; · (intro w hSw; (try dsimp only at hSw); go_simp; (first | done | with_reducible rfl)))
            try simp only [Act.put, List.setIfInBounds_toArray, List.set_cons_zero, List.set_cons_succ]
            (refine wpAnyH_take (i := 6) (oi := { dst := some 73, op := Op.move (Operand.tmp 8), type := 3, pos := "law.go:100", after := #[], guard := none }) (v := ?_) rfl (by kernel_rfl) (by kernel_rfl) (by kernel_rfl) (fun _ _ _ h => h) (Or.inl ⟨by rfl, ?_⟩) (by assumption) ?_; rotate_left; · (intro w hSw; (try dsimp only at hSw); go_simp; (first | done | with_reducible rfl)))
            try simp only [Act.put, List.setIfInBounds_toArray, List.set_cons_zero, List.set_cons_succ]
            refine wpAnyH_ready (rs := [7]) (by kernel_rfl) (by simp) ?_
            refine (AllReadyH.cons (o := { dst := some 74, op := Op.call { callee := Callee.value (Operand.func 13), args := #[Operand.tmp 67, Operand.tmp 68, Operand.tmp 72, Operand.tmp 73], argTypes := #[24, 29, 34, 3] }, type := 4, pos := "law.go:100", after := #[{ on := 0, ground := Ground.data }, { on := 1, ground := Ground.data }, { on := 5, ground := Ground.data }, { on := 6, ground := Ground.data }], guard := none }) rfl (fun K hK => ?_) AllReadyH.nil)
            go_simp
            (go_at_call 13; (with_reducible refine KD.out.mono ?_); rintro e w6 ⟨rfl, hx⟩; have D6 := Lib.hid hx; have g6 := hx.grew; obtain ⟨r3, A3, c3, r2⟩ := dx_head hx; clear hx)
            refine hK.out _ _ ?_ (fun hHeld => ?_)
            · first
              | exact HS4.out _ g6
            clear hK K
            try simp only [Act.put, List.setIfInBounds_toArray, List.set_cons_zero, List.set_cons_succ]
            (refine wpAnyH_take (i := 8) (oi := { dst := some 75, op := Op.unOp UnOp.not 4 (Operand.tmp 74), type := 4, pos := "law.go:100", after := #[{ on := 7, ground := Ground.data }], guard := none }) (v := ?_) rfl (by kernel_rfl) (by kernel_rfl) (by kernel_rfl) (fun _ _ _ h => h) (Or.inl ⟨by rfl, ?_⟩) (by assumption) ?_; rotate_left; · (intro w hSw; (try dsimp only at hSw); go_simp; (first | done | with_reducible rfl)))
            try simp only [Act.put, List.setIfInBounds_toArray, List.set_cons_zero, List.set_cons_succ]
            (refine wpAnyH_take (i := 9) (oi := { dst := some 76, op := Op.move (Operand.tmp 75), type := 4, pos := "law.go:100", after := #[{ on := 8, ground := Ground.data }, { on := 7, ground := Ground.chain }], guard := none }) (v := ?_) rfl (by kernel_rfl) (by kernel_rfl) (by kernel_rfl) (fun _ _ _ h => h) (Or.inl ⟨by rfl, ?_⟩) (by assumption) ?_; rotate_left; · (intro w hSw; (try dsimp only at hSw); go_simp; (first | done | with_reducible rfl)))
            try simp only [Act.put, List.setIfInBounds_toArray, List.set_cons_zero, List.set_cons_succ]
            (refine wpAnyH_take (i := 10) (oi := { dst := some 77, op := Op.move (Operand.tmp 5), type := 24, pos := "law.go:100", after := #[{ on := 9, ground := Ground.guard }], guard := some (9, false) }) (v := ?_) rfl (by kernel_rfl) (by kernel_rfl) (by kernel_rfl) (fun _ _ _ h => h) (Or.inl ⟨by rfl, ?_⟩) (by assumption) ?_; rotate_left; · (intro w hSw; (try dsimp only at hSw); go_simp; (first | done | with_reducible rfl)))
            try simp only [Act.put, List.setIfInBounds_toArray, List.set_cons_zero, List.set_cons_succ]
            (refine wpAnyH_take (i := 12) (oi := { dst := some 79, op := Op.move (Operand.tmp 7), type := 29, pos := "law.go:100", after := #[{ on := 9, ground := Ground.guard }], guard := some (9, false) }) (v := ?_) rfl (by kernel_rfl) (by kernel_rfl) (by kernel_rfl) (fun _ _ _ h => h) (Or.inl ⟨by rfl, ?_⟩) (by assumption) ?_; rotate_left; · (intro w hSw; (try dsimp only at hSw); go_simp; (first | done | with_reducible rfl)))
            try simp only [Act.put, List.setIfInBounds_toArray, List.set_cons_zero, List.set_cons_succ]
            (refine wpAnyH_take (i := 13) (oi := { dst := some 80, op := Op.nilCheck (Operand.tmp 79), type := 0, pos := "law.go:100", after := #[{ on := 12, ground := Ground.data }, { on := 9, ground := Ground.guard }], guard := some (9, false) }) (v := ?_) rfl (by kernel_rfl) (by kernel_rfl) (by kernel_rfl) (fun _ _ _ h => h) (Or.inl ⟨by rfl, ?_⟩) (by assumption) ?_; rotate_left; · (intro w hSw; (try dsimp only at hSw); go_simp; (first | done | with_reducible rfl)))
            try simp only [Act.put, List.setIfInBounds_toArray, List.set_cons_zero, List.set_cons_succ]
            (refine wpAnyH_take (i := 14) (oi := { dst := some 81, op := Op.fieldAddr 38 (Operand.tmp 80) 3, type := 0, pos := "law.go:100", after := #[{ on := 13, ground := Ground.data }, { on := 9, ground := Ground.guard }], guard := some (9, false) }) (v := ?_) rfl (by kernel_rfl) (by kernel_rfl) (by kernel_rfl) (fun _ _ _ h => h) (Or.inl ⟨by rfl, ?_⟩) (by assumption) ?_; rotate_left; · (intro w hSw; (try dsimp only at hSw); go_simp; (first | done | with_reducible rfl)))
            try simp only [Act.put, List.setIfInBounds_toArray, List.set_cons_zero, List.set_cons_succ]
            refine wpAnyH_ready (rs := [11, 15]) (by kernel_rfl) (by simp) ?_
            refine (AllReadyH.cons (o := { dst := some 78, op := Op.call { callee := Callee.value (Operand.func 14), args := #[Operand.tmp 77], argTypes := #[24] }, type := 4, pos := "law.go:100", after := #[{ on := 10, ground := Ground.data }, { on := 9, ground := Ground.chain }, { on := 9, ground := Ground.guard }], guard := some (9, false) }) rfl (fun K hK => ?_) (AllReadyH.cons (o := { dst := some 82, op := Op.load 4 (Operand.tmp 81), type := 4, pos := "law.go:100", after := #[{ on := 14, ground := Ground.data }, { on := 9, ground := Ground.guard }], guard := some (9, false) }) rfl (fun K hK => ?_) AllReadyH.nil))
            · go_simp
              (go_at_call 14; (with_reducible refine (dx_off D6).mono ?_); rintro e w7 ⟨rfl, rfl⟩)
              refine hK.out _ _ ?_ (fun hHeld => ?_)
              · first
                | exact hHeld
              clear hK K
              try simp only [Act.put, List.setIfInBounds_toArray, List.set_cons_zero, List.set_cons_succ]
              refine wpAnyH_ready (rs := [15]) (by kernel_rfl) (by simp) ?_
              refine (AllReadyH.cons (o := { dst := some 82, op := Op.load 4 (Operand.tmp 81), type := 4, pos := "law.go:100", after := #[{ on := 14, ground := Ground.data }, { on := 9, ground := Ground.guard }], guard := some (9, false) }) rfl (fun K hK => ?_) AllReadyH.nil)
              go_simp
              refine hK.out _ _ ?_ (fun hHeld => ?_)
              · first
                | exact hHeld
              clear hK K
              try simp only [Act.put, List.setIfInBounds_toArray, List.set_cons_zero, List.set_cons_succ]
              (refine wpAnyH_take (i := 16) (oi := { dst := some 83, op := Op.binOp BinOp.neq 4 (Operand.tmp 78) (Operand.tmp 82) 4, type := 4, pos := "law.go:100", after := #[{ on := 11, ground := Ground.data }, { on := 15, ground := Ground.data }, { on := 9, ground := Ground.guard }], guard := some (9, false) }) (v := ?_) rfl (by kernel_rfl) (by kernel_rfl) (by kernel_rfl) (fun _ _ _ h => h) (Or.inl ⟨by rfl, ?_⟩) (by assumption) ?_; rotate_left; · (intro w hSw; (try dsimp only at hSw); go_simp; (first | done | with_reducible rfl)))
              try simp only [Act.put, List.setIfInBounds_toArray, List.set_cons_zero, List.set_cons_succ]
              (refine wpAnyH_take (i := 17) (oi := { dst := some 84, op := Op.pick (Operand.tmp 76) (Operand.const (Value.bool true)) (Operand.tmp 83), type := 4, pos := "law.go:100", after := #[{ on := 9, ground := Ground.data }, { on := 16, ground := Ground.data }], guard := none }) (v := ?_) rfl (by kernel_rfl) (by kernel_rfl) (by kernel_rfl) (fun _ _ _ h => h) (Or.inl ⟨by rfl, ?_⟩) (by assumption) ?_; rotate_left; · (intro w hSw; (try dsimp only at hSw); go_simp; (first | done | with_reducible rfl)))
              try simp only [Act.put, List.setIfInBounds_toArray, List.set_cons_zero, List.set_cons_succ]
              (refine wpAnyH_take (i := 18) (oi := { dst := some 85, op := Op.move (Operand.tmp 84), type := 4, pos := "law.go:100", after := #[{ on := 17, ground := Ground.data }, { on := 11, ground := Ground.chain }], guard := none }) (v := ?_) rfl (by kernel_rfl) (by kernel_rfl) (by kernel_rfl) (fun _ _ _ h => h) (Or.inl ⟨by rfl, ?_⟩) (by assumption) ?_; rotate_left; · (intro w hSw; (try dsimp only at hSw); go_simp; (first | done | with_reducible rfl)))
              try simp only [Act.put, List.setIfInBounds_toArray, List.set_cons_zero, List.set_cons_succ]
              (refine wpAnyH_take (i := 19) (oi := { dst := some 86, op := Op.move (Operand.tmp 5), type := 24, pos := "law.go:100", after := #[{ on := 18, ground := Ground.guard }], guard := some (18, false) }) (v := ?_) rfl (by kernel_rfl) (by kernel_rfl) (by kernel_rfl) (fun _ _ _ h => h) (Or.inl ⟨by rfl, ?_⟩) (by assumption) ?_; rotate_left; · (intro w hSw; (try dsimp only at hSw); go_simp; (first | done | with_reducible rfl)))
              try simp only [Act.put, List.setIfInBounds_toArray, List.set_cons_zero, List.set_cons_succ]
              (refine wpAnyH_take (i := 21) (oi := { dst := some 88, op := Op.move (Operand.tmp 7), type := 29, pos := "law.go:100", after := #[{ on := 18, ground := Ground.guard }], guard := some (18, false) }) (v := ?_) rfl (by kernel_rfl) (by kernel_rfl) (by kernel_rfl) (fun _ _ _ h => h) (Or.inl ⟨by rfl, ?_⟩) (by assumption) ?_; rotate_left; · (intro w hSw; (try dsimp only at hSw); go_simp; (first | done | with_reducible rfl)))
              try simp only [Act.put, List.setIfInBounds_toArray, List.set_cons_zero, List.set_cons_succ]
              (refine wpAnyH_take (i := 22) (oi := { dst := some 89, op := Op.nilCheck (Operand.tmp 88), type := 0, pos := "law.go:100", after := #[{ on := 21, ground := Ground.data }, { on := 18, ground := Ground.guard }], guard := some (18, false) }) (v := ?_) rfl (by kernel_rfl) (by kernel_rfl) (by kernel_rfl) (fun _ _ _ h => h) (Or.inl ⟨by rfl, ?_⟩) (by assumption) ?_; rotate_left; · (intro w hSw; (try dsimp only at hSw); go_simp; (first | done | with_reducible rfl)))
              try simp only [Act.put, List.setIfInBounds_toArray, List.set_cons_zero, List.set_cons_succ]
              (refine wpAnyH_take (i := 23) (oi := { dst := some 90, op := Op.fieldAddr 38 (Operand.tmp 89) 2, type := 0, pos := "law.go:100", after := #[{ on := 22, ground := Ground.data }, { on := 18, ground := Ground.guard }], guard := some (18, false) }) (v := ?_) rfl (by kernel_rfl) (by kernel_rfl) (by kernel_rfl) (fun _ _ _ h => h) (Or.inl ⟨by rfl, ?_⟩) (by assumption) ?_; rotate_left; · (intro w hSw; (try dsimp only at hSw); go_simp; (first | done | with_reducible rfl)))
              try simp only [Act.put, List.setIfInBounds_toArray, List.set_cons_zero, List.set_cons_succ]
              refine wpAnyH_ready (rs := [20, 24]) (by kernel_rfl) (by simp) ?_
              refine (AllReadyH.cons (o := { dst := some 87, op := Op.call { callee := Callee.value (Operand.func 15), args := #[Operand.tmp 86], argTypes := #[24] }, type := 3, pos := "law.go:100", after := #[{ on := 19, ground := Ground.data }, { on := 18, ground := Ground.chain }, { on := 18, ground := Ground.guard }], guard := some (18, false) }) rfl (fun K hK => ?_) (AllReadyH.cons (o := { dst := some 91, op := Op.load 36 (Operand.tmp 90), type := 36, pos := "law.go:100", after := #[{ on := 23, ground := Ground.data }, { on := 18, ground := Ground.guard }], guard := some (18, false) }) rfl (fun K hK => ?_) AllReadyH.nil))
              · go_simp
                (go_at_call 15; (with_reducible refine (dx_open D6).mono ?_); rintro e w7 ⟨rfl, rfl⟩)
                refine hK.out _ _ ?_ (fun hHeld => ?_)
                · first
                  | exact hHeld
                clear hK K
                try simp only [Act.put, List.setIfInBounds_toArray, List.set_cons_zero, List.set_cons_succ]
                refine wpAnyH_ready (rs := [24]) (by kernel_rfl) (by simp) ?_
                refine (AllReadyH.cons (o := { dst := some 91, op := Op.load 36 (Operand.tmp 90), type := 36, pos := "law.go:100", after := #[{ on := 23, ground := Ground.data }, { on := 18, ground := Ground.guard }], guard := some (18, false) }) rfl (fun K hK => ?_) AllReadyH.nil)
                go_simp
                refine hK.out _ _ ?_ (fun hHeld => ?_)
                · first
                  | exact hHeld
                clear hK K
                try simp only [Act.put, List.setIfInBounds_toArray, List.set_cons_zero, List.set_cons_succ]
                (refine wpAnyH_take (i := 25) (oi := { dst := some 92, op := Op.call { callee := Callee.builtin Builtin.len, args := #[Operand.tmp 91], argTypes := #[36] }, type := 3, pos := "law.go:100", after := #[{ on := 24, ground := Ground.data }, { on := 18, ground := Ground.guard }], guard := some (18, false) }) (v := ?_) rfl (by kernel_rfl) (by kernel_rfl) (by kernel_rfl) (fun _ _ _ h => h) (Or.inl ⟨by rfl, ?_⟩) (by assumption) ?_; rotate_left; · (intro w hSw; (try dsimp only at hSw); go_simp; (first | done | with_reducible rfl)))
                try simp only [Act.put, List.setIfInBounds_toArray, List.set_cons_zero, List.set_cons_succ]
                (refine wpAnyH_take (i := 26) (oi := { dst := some 93, op := Op.binOp BinOp.neq 3 (Operand.tmp 87) (Operand.tmp 92) 3, type := 4, pos := "law.go:100", after := #[{ on := 20, ground := Ground.data }, { on := 25, ground := Ground.data }, { on := 18, ground := Ground.guard }], guard := some (18, false) }) (v := ?_) rfl (by kernel_rfl) (by kernel_rfl) (by kernel_rfl) (fun _ _ _ h => h) (Or.inl ⟨by rfl, ?_⟩) (by assumption) ?_; rotate_left; · (intro w hSw; (try dsimp only at hSw); go_simp; (first | done | with_reducible rfl)))
                try simp only [Act.put, List.setIfInBounds_toArray, List.set_cons_zero, List.set_cons_succ]
                (refine wpAnyH_take (i := 27) (oi := { dst := some 94, op := Op.pick (Operand.tmp 85) (Operand.const (Value.bool true)) (Operand.tmp 93), type := 4, pos := "law.go:100", after := #[{ on := 18, ground := Ground.data }, { on := 26, ground := Ground.data }], guard := none }) (v := ?_) rfl (by kernel_rfl) (by kernel_rfl) (by kernel_rfl) (fun _ _ _ h => h) (Or.inl ⟨by rfl, ?_⟩) (by assumption) ?_; rotate_left; · (intro w hSw; (try dsimp only at hSw); go_simp; (first | done | with_reducible rfl)))
                try simp only [Act.put, List.setIfInBounds_toArray, List.set_cons_zero, List.set_cons_succ]
                (refine wpAnyH_take (i := 28) (oi := { dst := some 95, op := Op.move (Operand.tmp 94), type := 4, pos := "law.go:100", after := #[{ on := 27, ground := Ground.data }, { on := 20, ground := Ground.chain }], guard := none }) (v := ?_) rfl (by kernel_rfl) (by kernel_rfl) (by kernel_rfl) (fun _ _ _ h => h) (Or.inl ⟨by rfl, ?_⟩) (by assumption) ?_; rotate_left; · (intro w hSw; (try dsimp only at hSw); go_simp; (first | done | with_reducible rfl)))
                try simp only [Act.put, List.setIfInBounds_toArray, List.set_cons_zero, List.set_cons_succ]
                (refine wpAnyH_take (i := 29) (oi := { dst := some 96, op := Op.move (Operand.tmp 5), type := 24, pos := "law.go:100", after := #[{ on := 28, ground := Ground.guard }], guard := some (28, false) }) (v := ?_) rfl (by kernel_rfl) (by kernel_rfl) (by kernel_rfl) (fun _ _ _ h => h) (Or.inl ⟨by rfl, ?_⟩) (by assumption) ?_; rotate_left; · (intro w hSw; (try dsimp only at hSw); go_simp; (first | done | with_reducible rfl)))
                try simp only [Act.put, List.setIfInBounds_toArray, List.set_cons_zero, List.set_cons_succ]
                (refine wpAnyH_take (i := 31) (oi := { dst := some 98, op := Op.move (Operand.tmp 0), type := 3, pos := "law.go:100", after := #[{ on := 28, ground := Ground.guard }], guard := some (28, false) }) (v := ?_) rfl (by kernel_rfl) (by kernel_rfl) (by kernel_rfl) (fun _ _ _ h => h) (Or.inl ⟨by rfl, ?_⟩) (by assumption) ?_; rotate_left; · (intro w hSw; (try dsimp only at hSw); go_simp; (first | done | with_reducible rfl)))
                try simp only [Act.put, List.setIfInBounds_toArray, List.set_cons_zero, List.set_cons_succ]
                refine wpAnyH_ready (rs := [30]) (by kernel_rfl) (by simp) ?_
                refine (AllReadyH.cons (o := { dst := some 97, op := Op.call { callee := Callee.value (Operand.func 16), args := #[Operand.tmp 96], argTypes := #[24] }, type := 3, pos := "law.go:100", after := #[{ on := 29, ground := Ground.data }, { on := 28, ground := Ground.chain }, { on := 28, ground := Ground.guard }], guard := some (28, false) }) rfl (fun K hK => ?_) AllReadyH.nil)
                go_simp
                (go_at_call 16; (with_reducible refine (dx_blocks D6).mono ?_); rintro e w7 ⟨rfl, rfl⟩)
                refine hK.out _ _ ?_ (fun hHeld => ?_)
                · first
                  | exact hHeld
                clear hK K
                try simp only [Act.put, List.setIfInBounds_toArray, List.set_cons_zero, List.set_cons_succ]
                (refine wpAnyH_take (i := 32) (oi := { dst := some 99, op := Op.binOp BinOp.neq 3 (Operand.tmp 97) (Operand.tmp 98) 3, type := 4, pos := "law.go:100", after := #[{ on := 30, ground := Ground.data }, { on := 31, ground := Ground.data }, { on := 28, ground := Ground.guard }], guard := some (28, false) }) (v := ?_) rfl (by kernel_rfl) (by kernel_rfl) (by kernel_rfl) (fun _ _ _ h => h) (Or.inl ⟨by rfl, ?_⟩) (by assumption) ?_; rotate_left; · (intro w hSw; (try dsimp only at hSw); go_simp; (first | done | with_reducible rfl)))
                try simp only [Act.put, List.setIfInBounds_toArray, List.set_cons_zero, List.set_cons_succ]
                (refine wpAnyH_take (i := 33) (oi := { dst := some 100, op := Op.pick (Operand.tmp 95) (Operand.const (Value.bool true)) (Operand.tmp 99), type := 4, pos := "law.go:100", after := #[{ on := 28, ground := Ground.data }, { on := 32, ground := Ground.data }], guard := none }) (v := ?_) rfl (by kernel_rfl) (by kernel_rfl) (by kernel_rfl) (fun _ _ _ h => h) (Or.inl ⟨by rfl, ?_⟩) (by assumption) ?_; rotate_left; · (intro w hSw; (try dsimp only at hSw); go_simp; (first | done | with_reducible rfl)))
                try simp only [Act.put, List.setIfInBounds_toArray, List.set_cons_zero, List.set_cons_succ]
                refine wpAnyH_done (by kernel_rfl) ?_ _
                clear hHeld r3 r2 g6 hs0 g4 HS4 KD
                have hm9 := HL6.out
                go_wp2
                go_roundw
                case rel => exact ⟨k + 1, s6, by go_num, by omega, by omega, D6, HL6, HO6⟩
                case measure => simp only [intOf]; omega
              · go_simp
                refine hK.out _ _ ?_ (fun hHeld => ?_)
                · first
                  | exact hHeld
                clear hK K
                try simp only [Act.put, List.setIfInBounds_toArray, List.set_cons_zero, List.set_cons_succ]
                (refine wpAnyH_take (i := 25) (oi := { dst := some 92, op := Op.call { callee := Callee.builtin Builtin.len, args := #[Operand.tmp 91], argTypes := #[36] }, type := 3, pos := "law.go:100", after := #[{ on := 24, ground := Ground.data }, { on := 18, ground := Ground.guard }], guard := some (18, false) }) (v := ?_) rfl (by kernel_rfl) (by kernel_rfl) (by kernel_rfl) (fun _ _ _ h => h) (Or.inl ⟨by rfl, ?_⟩) (by assumption) ?_; rotate_left; · (intro w hSw; (try dsimp only at hSw); go_simp; (first | done | with_reducible rfl)))
                try simp only [Act.put, List.setIfInBounds_toArray, List.set_cons_zero, List.set_cons_succ]
                refine wpAnyH_ready (rs := [20]) (by kernel_rfl) (by simp) ?_
                refine (AllReadyH.cons (o := { dst := some 87, op := Op.call { callee := Callee.value (Operand.func 15), args := #[Operand.tmp 86], argTypes := #[24] }, type := 3, pos := "law.go:100", after := #[{ on := 19, ground := Ground.data }, { on := 18, ground := Ground.chain }, { on := 18, ground := Ground.guard }], guard := some (18, false) }) rfl (fun K hK => ?_) AllReadyH.nil)
                go_simp
                (go_at_call 15; (with_reducible refine (dx_open D6).mono ?_); rintro e w7 ⟨rfl, rfl⟩)
                refine hK.out _ _ ?_ (fun hHeld => ?_)
                · first
                  | exact hHeld
                clear hK K
                try simp only [Act.put, List.setIfInBounds_toArray, List.set_cons_zero, List.set_cons_succ]
                (refine wpAnyH_take (i := 26) (oi := { dst := some 93, op := Op.binOp BinOp.neq 3 (Operand.tmp 87) (Operand.tmp 92) 3, type := 4, pos := "law.go:100", after := #[{ on := 20, ground := Ground.data }, { on := 25, ground := Ground.data }, { on := 18, ground := Ground.guard }], guard := some (18, false) }) (v := ?_) rfl (by kernel_rfl) (by kernel_rfl) (by kernel_rfl) (fun _ _ _ h => h) (Or.inl ⟨by rfl, ?_⟩) (by assumption) ?_; rotate_left; · (intro w hSw; (try dsimp only at hSw); go_simp; (first | done | with_reducible rfl)))
                try simp only [Act.put, List.setIfInBounds_toArray, List.set_cons_zero, List.set_cons_succ]
                (refine wpAnyH_take (i := 27) (oi := { dst := some 94, op := Op.pick (Operand.tmp 85) (Operand.const (Value.bool true)) (Operand.tmp 93), type := 4, pos := "law.go:100", after := #[{ on := 18, ground := Ground.data }, { on := 26, ground := Ground.data }], guard := none }) (v := ?_) rfl (by kernel_rfl) (by kernel_rfl) (by kernel_rfl) (fun _ _ _ h => h) (Or.inl ⟨by rfl, ?_⟩) (by assumption) ?_; rotate_left; · (intro w hSw; (try dsimp only at hSw); go_simp; (first | done | with_reducible rfl)))
                try simp only [Act.put, List.setIfInBounds_toArray, List.set_cons_zero, List.set_cons_succ]
                (refine wpAnyH_take (i := 28) (oi := { dst := some 95, op := Op.move (Operand.tmp 94), type := 4, pos := "law.go:100", after := #[{ on := 27, ground := Ground.data }, { on := 20, ground := Ground.chain }], guard := none }) (v := ?_) rfl (by kernel_rfl) (by kernel_rfl) (by kernel_rfl) (fun _ _ _ h => h) (Or.inl ⟨by rfl, ?_⟩) (by assumption) ?_; rotate_left; · (intro w hSw; (try dsimp only at hSw); go_simp; (first | done | with_reducible rfl)))
                try simp only [Act.put, List.setIfInBounds_toArray, List.set_cons_zero, List.set_cons_succ]
                (refine wpAnyH_take (i := 29) (oi := { dst := some 96, op := Op.move (Operand.tmp 5), type := 24, pos := "law.go:100", after := #[{ on := 28, ground := Ground.guard }], guard := some (28, false) }) (v := ?_) rfl (by kernel_rfl) (by kernel_rfl) (by kernel_rfl) (fun _ _ _ h => h) (Or.inl ⟨by rfl, ?_⟩) (by assumption) ?_; rotate_left; · (intro w hSw; (try dsimp only at hSw); go_simp; (first | done | with_reducible rfl)))
                try simp only [Act.put, List.setIfInBounds_toArray, List.set_cons_zero, List.set_cons_succ]
                (refine wpAnyH_take (i := 31) (oi := { dst := some 98, op := Op.move (Operand.tmp 0), type := 3, pos := "law.go:100", after := #[{ on := 28, ground := Ground.guard }], guard := some (28, false) }) (v := ?_) rfl (by kernel_rfl) (by kernel_rfl) (by kernel_rfl) (fun _ _ _ h => h) (Or.inl ⟨by rfl, ?_⟩) (by assumption) ?_; rotate_left; · (intro w hSw; (try dsimp only at hSw); go_simp; (first | done | with_reducible rfl)))
                try simp only [Act.put, List.setIfInBounds_toArray, List.set_cons_zero, List.set_cons_succ]
                refine wpAnyH_ready (rs := [30]) (by kernel_rfl) (by simp) ?_
                refine (AllReadyH.cons (o := { dst := some 97, op := Op.call { callee := Callee.value (Operand.func 16), args := #[Operand.tmp 96], argTypes := #[24] }, type := 3, pos := "law.go:100", after := #[{ on := 29, ground := Ground.data }, { on := 28, ground := Ground.chain }, { on := 28, ground := Ground.guard }], guard := some (28, false) }) rfl (fun K hK => ?_) AllReadyH.nil)
                go_simp
                (go_at_call 16; (with_reducible refine (dx_blocks D6).mono ?_); rintro e w7 ⟨rfl, rfl⟩)
                refine hK.out _ _ ?_ (fun hHeld => ?_)
                · first
                  | exact hHeld
                clear hK K
                try simp only [Act.put, List.setIfInBounds_toArray, List.set_cons_zero, List.set_cons_succ]
                (refine wpAnyH_take (i := 32) (oi := { dst := some 99, op := Op.binOp BinOp.neq 3 (Operand.tmp 97) (Operand.tmp 98) 3, type := 4, pos := "law.go:100", after := #[{ on := 30, ground := Ground.data }, { on := 31, ground := Ground.data }, { on := 28, ground := Ground.guard }], guard := some (28, false) }) (v := ?_) rfl (by kernel_rfl) (by kernel_rfl) (by kernel_rfl) (fun _ _ _ h => h) (Or.inl ⟨by rfl, ?_⟩) (by assumption) ?_; rotate_left; · (intro w hSw; (try dsimp only at hSw); go_simp; (first | done | with_reducible rfl)))
                try simp only [Act.put, List.setIfInBounds_toArray, List.set_cons_zero, List.set_cons_succ]
                (refine wpAnyH_take (i := 33) (oi := { dst := some 100, op := Op.pick (Operand.tmp 95) (Operand.const (Value.bool true)) (Operand.tmp 99), type := 4, pos := "law.go:100", after := #[{ on := 28, ground := Ground.data }, { on := 32, ground := Ground.data }], guard := none }) (v := ?_) rfl (by kernel_rfl) (by kernel_rfl) (by kernel_rfl) (fun _ _ _ h => h) (Or.inl ⟨by rfl, ?_⟩) (by assumption) ?_; rotate_left; · (intro w hSw; (try dsimp only at hSw); go_simp; (first | done | with_reducible rfl)))
                try simp only [Act.put, List.setIfInBounds_toArray, List.set_cons_zero, List.set_cons_succ]
                refine wpAnyH_done (by kernel_rfl) ?_ _
                clear hHeld r3 r2 g6 hs0 g4 HS4 KD
                have hm9 := HL6.out
                go_wp2
                go_roundw
                case rel => exact ⟨k + 1, s6, by go_num, by omega, by omega, D6, HL6, HO6⟩
                case measure => simp only [intOf]; omega
            · go_simp
              refine hK.out _ _ ?_ (fun hHeld => ?_)
              · first
                | exact hHeld
              clear hK K
              try simp only [Act.put, List.setIfInBounds_toArray, List.set_cons_zero, List.set_cons_succ]
              refine wpAnyH_ready (rs := [11]) (by kernel_rfl) (by simp) ?_
              refine (AllReadyH.cons (o := { dst := some 78, op := Op.call { callee := Callee.value (Operand.func 14), args := #[Operand.tmp 77], argTypes := #[24] }, type := 4, pos := "law.go:100", after := #[{ on := 10, ground := Ground.data }, { on := 9, ground := Ground.chain }, { on := 9, ground := Ground.guard }], guard := some (9, false) }) rfl (fun K hK => ?_) AllReadyH.nil)
              go_simp
              (go_at_call 14; (with_reducible refine (dx_off D6).mono ?_); rintro e w7 ⟨rfl, rfl⟩)
              refine hK.out _ _ ?_ (fun hHeld => ?_)
              · first
                | exact hHeld
              clear hK K
              try simp only [Act.put, List.setIfInBounds_toArray, List.set_cons_zero, List.set_cons_succ]
              (refine wpAnyH_take (i := 16) (oi := { dst := some 83, op := Op.binOp BinOp.neq 4 (Operand.tmp 78) (Operand.tmp 82) 4, type := 4, pos := "law.go:100", after := #[{ on := 11, ground := Ground.data }, { on := 15, ground := Ground.data }, { on := 9, ground := Ground.guard }], guard := some (9, false) }) (v := ?_) rfl (by kernel_rfl) (by kernel_rfl) (by kernel_rfl) (fun _ _ _ h => h) (Or.inl ⟨by rfl, ?_⟩) (by assumption) ?_; rotate_left; · (intro w hSw; (try dsimp only at hSw); go_simp; (first | done | with_reducible rfl)))
              try simp only [Act.put, List.setIfInBounds_toArray, List.set_cons_zero, List.set_cons_succ]
              (refine wpAnyH_take (i := 17) (oi := { dst := some 84, op := Op.pick (Operand.tmp 76) (Operand.const (Value.bool true)) (Operand.tmp 83), type := 4, pos := "law.go:100", after := #[{ on := 9, ground := Ground.data }, { on := 16, ground := Ground.data }], guard := none }) (v := ?_) rfl (by kernel_rfl) (by kernel_rfl) (by kernel_rfl) (fun _ _ _ h => h) (Or.inl ⟨by rfl, ?_⟩) (by assumption) ?_; rotate_left; · (intro w hSw; (try dsimp only at hSw); go_simp; (first | done | with_reducible rfl)))
              try simp only [Act.put, List.setIfInBounds_toArray, List.set_cons_zero, List.set_cons_succ]
              (refine wpAnyH_take (i := 18) (oi := { dst := some 85, op := Op.move (Operand.tmp 84), type := 4, pos := "law.go:100", after := #[{ on := 17, ground := Ground.data }, { on := 11, ground := Ground.chain }], guard := none }) (v := ?_) rfl (by kernel_rfl) (by kernel_rfl) (by kernel_rfl) (fun _ _ _ h => h) (Or.inl ⟨by rfl, ?_⟩) (by assumption) ?_; rotate_left; · (intro w hSw; (try dsimp only at hSw); go_simp; (first | done | with_reducible rfl)))
              try simp only [Act.put, List.setIfInBounds_toArray, List.set_cons_zero, List.set_cons_succ]
              (refine wpAnyH_take (i := 19) (oi := { dst := some 86, op := Op.move (Operand.tmp 5), type := 24, pos := "law.go:100", after := #[{ on := 18, ground := Ground.guard }], guard := some (18, false) }) (v := ?_) rfl (by kernel_rfl) (by kernel_rfl) (by kernel_rfl) (fun _ _ _ h => h) (Or.inl ⟨by rfl, ?_⟩) (by assumption) ?_; rotate_left; · (intro w hSw; (try dsimp only at hSw); go_simp; (first | done | with_reducible rfl)))
              try simp only [Act.put, List.setIfInBounds_toArray, List.set_cons_zero, List.set_cons_succ]
              (refine wpAnyH_take (i := 21) (oi := { dst := some 88, op := Op.move (Operand.tmp 7), type := 29, pos := "law.go:100", after := #[{ on := 18, ground := Ground.guard }], guard := some (18, false) }) (v := ?_) rfl (by kernel_rfl) (by kernel_rfl) (by kernel_rfl) (fun _ _ _ h => h) (Or.inl ⟨by rfl, ?_⟩) (by assumption) ?_; rotate_left; · (intro w hSw; (try dsimp only at hSw); go_simp; (first | done | with_reducible rfl)))
              try simp only [Act.put, List.setIfInBounds_toArray, List.set_cons_zero, List.set_cons_succ]
              (refine wpAnyH_take (i := 22) (oi := { dst := some 89, op := Op.nilCheck (Operand.tmp 88), type := 0, pos := "law.go:100", after := #[{ on := 21, ground := Ground.data }, { on := 18, ground := Ground.guard }], guard := some (18, false) }) (v := ?_) rfl (by kernel_rfl) (by kernel_rfl) (by kernel_rfl) (fun _ _ _ h => h) (Or.inl ⟨by rfl, ?_⟩) (by assumption) ?_; rotate_left; · (intro w hSw; (try dsimp only at hSw); go_simp; (first | done | with_reducible rfl)))
              try simp only [Act.put, List.setIfInBounds_toArray, List.set_cons_zero, List.set_cons_succ]
              (refine wpAnyH_take (i := 23) (oi := { dst := some 90, op := Op.fieldAddr 38 (Operand.tmp 89) 2, type := 0, pos := "law.go:100", after := #[{ on := 22, ground := Ground.data }, { on := 18, ground := Ground.guard }], guard := some (18, false) }) (v := ?_) rfl (by kernel_rfl) (by kernel_rfl) (by kernel_rfl) (fun _ _ _ h => h) (Or.inl ⟨by rfl, ?_⟩) (by assumption) ?_; rotate_left; · (intro w hSw; (try dsimp only at hSw); go_simp; (first | done | with_reducible rfl)))
              try simp only [Act.put, List.setIfInBounds_toArray, List.set_cons_zero, List.set_cons_succ]
              refine wpAnyH_ready (rs := [20, 24]) (by kernel_rfl) (by simp) ?_
              refine (AllReadyH.cons (o := { dst := some 87, op := Op.call { callee := Callee.value (Operand.func 15), args := #[Operand.tmp 86], argTypes := #[24] }, type := 3, pos := "law.go:100", after := #[{ on := 19, ground := Ground.data }, { on := 18, ground := Ground.chain }, { on := 18, ground := Ground.guard }], guard := some (18, false) }) rfl (fun K hK => ?_) (AllReadyH.cons (o := { dst := some 91, op := Op.load 36 (Operand.tmp 90), type := 36, pos := "law.go:100", after := #[{ on := 23, ground := Ground.data }, { on := 18, ground := Ground.guard }], guard := some (18, false) }) rfl (fun K hK => ?_) AllReadyH.nil))
              · go_simp
                (go_at_call 15; (with_reducible refine (dx_open D6).mono ?_); rintro e w7 ⟨rfl, rfl⟩)
                refine hK.out _ _ ?_ (fun hHeld => ?_)
                · first
                  | exact hHeld
                clear hK K
                try simp only [Act.put, List.setIfInBounds_toArray, List.set_cons_zero, List.set_cons_succ]
                refine wpAnyH_ready (rs := [24]) (by kernel_rfl) (by simp) ?_
                refine (AllReadyH.cons (o := { dst := some 91, op := Op.load 36 (Operand.tmp 90), type := 36, pos := "law.go:100", after := #[{ on := 23, ground := Ground.data }, { on := 18, ground := Ground.guard }], guard := some (18, false) }) rfl (fun K hK => ?_) AllReadyH.nil)
                go_simp
                refine hK.out _ _ ?_ (fun hHeld => ?_)
                · first
                  | exact hHeld
                clear hK K
                try simp only [Act.put, List.setIfInBounds_toArray, List.set_cons_zero, List.set_cons_succ]
                (refine wpAnyH_take (i := 25) (oi := { dst := some 92, op := Op.call { callee := Callee.builtin Builtin.len, args := #[Operand.tmp 91], argTypes := #[36] }, type := 3, pos := "law.go:100", after := #[{ on := 24, ground := Ground.data }, { on := 18, ground := Ground.guard }], guard := some (18, false) }) (v := ?_) rfl (by kernel_rfl) (by kernel_rfl) (by kernel_rfl) (fun _ _ _ h => h) (Or.inl ⟨by rfl, ?_⟩) (by assumption) ?_; rotate_left; · (intro w hSw; (try dsimp only at hSw); go_simp; (first | done | with_reducible rfl)))
                try simp only [Act.put, List.setIfInBounds_toArray, List.set_cons_zero, List.set_cons_succ]
                (refine wpAnyH_take (i := 26) (oi := { dst := some 93, op := Op.binOp BinOp.neq 3 (Operand.tmp 87) (Operand.tmp 92) 3, type := 4, pos := "law.go:100", after := #[{ on := 20, ground := Ground.data }, { on := 25, ground := Ground.data }, { on := 18, ground := Ground.guard }], guard := some (18, false) }) (v := ?_) rfl (by kernel_rfl) (by kernel_rfl) (by kernel_rfl) (fun _ _ _ h => h) (Or.inl ⟨by rfl, ?_⟩) (by assumption) ?_; rotate_left; · (intro w hSw; (try dsimp only at hSw); go_simp; (first | done | with_reducible rfl)))
                try simp only [Act.put, List.setIfInBounds_toArray, List.set_cons_zero, List.set_cons_succ]
                (refine wpAnyH_take (i := 27) (oi := { dst := some 94, op := Op.pick (Operand.tmp 85) (Operand.const (Value.bool true)) (Operand.tmp 93), type := 4, pos := "law.go:100", after := #[{ on := 18, ground := Ground.data }, { on := 26, ground := Ground.data }], guard := none }) (v := ?_) rfl (by kernel_rfl) (by kernel_rfl) (by kernel_rfl) (fun _ _ _ h => h) (Or.inl ⟨by rfl, ?_⟩) (by assumption) ?_; rotate_left; · (intro w hSw; (try dsimp only at hSw); go_simp; (first | done | with_reducible rfl)))
                try simp only [Act.put, List.setIfInBounds_toArray, List.set_cons_zero, List.set_cons_succ]
                (refine wpAnyH_take (i := 28) (oi := { dst := some 95, op := Op.move (Operand.tmp 94), type := 4, pos := "law.go:100", after := #[{ on := 27, ground := Ground.data }, { on := 20, ground := Ground.chain }], guard := none }) (v := ?_) rfl (by kernel_rfl) (by kernel_rfl) (by kernel_rfl) (fun _ _ _ h => h) (Or.inl ⟨by rfl, ?_⟩) (by assumption) ?_; rotate_left; · (intro w hSw; (try dsimp only at hSw); go_simp; (first | done | with_reducible rfl)))
                try simp only [Act.put, List.setIfInBounds_toArray, List.set_cons_zero, List.set_cons_succ]
                (refine wpAnyH_take (i := 29) (oi := { dst := some 96, op := Op.move (Operand.tmp 5), type := 24, pos := "law.go:100", after := #[{ on := 28, ground := Ground.guard }], guard := some (28, false) }) (v := ?_) rfl (by kernel_rfl) (by kernel_rfl) (by kernel_rfl) (fun _ _ _ h => h) (Or.inl ⟨by rfl, ?_⟩) (by assumption) ?_; rotate_left; · (intro w hSw; (try dsimp only at hSw); go_simp; (first | done | with_reducible rfl)))
                try simp only [Act.put, List.setIfInBounds_toArray, List.set_cons_zero, List.set_cons_succ]
                (refine wpAnyH_take (i := 31) (oi := { dst := some 98, op := Op.move (Operand.tmp 0), type := 3, pos := "law.go:100", after := #[{ on := 28, ground := Ground.guard }], guard := some (28, false) }) (v := ?_) rfl (by kernel_rfl) (by kernel_rfl) (by kernel_rfl) (fun _ _ _ h => h) (Or.inl ⟨by rfl, ?_⟩) (by assumption) ?_; rotate_left; · (intro w hSw; (try dsimp only at hSw); go_simp; (first | done | with_reducible rfl)))
                try simp only [Act.put, List.setIfInBounds_toArray, List.set_cons_zero, List.set_cons_succ]
                refine wpAnyH_ready (rs := [30]) (by kernel_rfl) (by simp) ?_
                refine (AllReadyH.cons (o := { dst := some 97, op := Op.call { callee := Callee.value (Operand.func 16), args := #[Operand.tmp 96], argTypes := #[24] }, type := 3, pos := "law.go:100", after := #[{ on := 29, ground := Ground.data }, { on := 28, ground := Ground.chain }, { on := 28, ground := Ground.guard }], guard := some (28, false) }) rfl (fun K hK => ?_) AllReadyH.nil)
                go_simp
                (go_at_call 16; (with_reducible refine (dx_blocks D6).mono ?_); rintro e w7 ⟨rfl, rfl⟩)
                refine hK.out _ _ ?_ (fun hHeld => ?_)
                · first
                  | exact hHeld
                clear hK K
                try simp only [Act.put, List.setIfInBounds_toArray, List.set_cons_zero, List.set_cons_succ]
                (refine wpAnyH_take (i := 32) (oi := { dst := some 99, op := Op.binOp BinOp.neq 3 (Operand.tmp 97) (Operand.tmp 98) 3, type := 4, pos := "law.go:100", after := #[{ on := 30, ground := Ground.data }, { on := 31, ground := Ground.data }, { on := 28, ground := Ground.guard }], guard := some (28, false) }) (v := ?_) rfl (by kernel_rfl) (by kernel_rfl) (by kernel_rfl) (fun _ _ _ h => h) (Or.inl ⟨by rfl, ?_⟩) (by assumption) ?_; rotate_left; · (intro w hSw; (try dsimp only at hSw); go_simp; (first | done | with_reducible rfl)))
                try simp only [Act.put, List.setIfInBounds_toArray, List.set_cons_zero, List.set_cons_succ]
                (refine wpAnyH_take (i := 33) (oi := { dst := some 100, op := Op.pick (Operand.tmp 95) (Operand.const (Value.bool true)) (Operand.tmp 99), type := 4, pos := "law.go:100", after := #[{ on := 28, ground := Ground.data }, { on := 32, ground := Ground.data }], guard := none }) (v := ?_) rfl (by kernel_rfl) (by kernel_rfl) (by kernel_rfl) (fun _ _ _ h => h) (Or.inl ⟨by rfl, ?_⟩) (by assumption) ?_; rotate_left; · (intro w hSw; (try dsimp only at hSw); go_simp; (first | done | with_reducible rfl)))
                try simp only [Act.put, List.setIfInBounds_toArray, List.set_cons_zero, List.set_cons_succ]
                refine wpAnyH_done (by kernel_rfl) ?_ _
                clear hHeld r3 r2 g6 hs0 g4 HS4 KD
                have hm9 := HL6.out
                go_wp2
                go_roundw
                case rel => exact ⟨k + 1, s6, by go_num, by omega, by omega, D6, HL6, HO6⟩
                case measure => simp only [intOf]; omega
              · go_simp
                refine hK.out _ _ ?_ (fun hHeld => ?_)
                · first
                  | exact hHeld
                clear hK K
                try simp only [Act.put, List.setIfInBounds_toArray, List.set_cons_zero, List.set_cons_succ]
                (refine wpAnyH_take (i := 25) (oi := { dst := some 92, op := Op.call { callee := Callee.builtin Builtin.len, args := #[Operand.tmp 91], argTypes := #[36] }, type := 3, pos := "law.go:100", after := #[{ on := 24, ground := Ground.data }, { on := 18, ground := Ground.guard }], guard := some (18, false) }) (v := ?_) rfl (by kernel_rfl) (by kernel_rfl) (by kernel_rfl) (fun _ _ _ h => h) (Or.inl ⟨by rfl, ?_⟩) (by assumption) ?_; rotate_left; · (intro w hSw; (try dsimp only at hSw); go_simp; (first | done | with_reducible rfl)))
                try simp only [Act.put, List.setIfInBounds_toArray, List.set_cons_zero, List.set_cons_succ]
                refine wpAnyH_ready (rs := [20]) (by kernel_rfl) (by simp) ?_
                refine (AllReadyH.cons (o := { dst := some 87, op := Op.call { callee := Callee.value (Operand.func 15), args := #[Operand.tmp 86], argTypes := #[24] }, type := 3, pos := "law.go:100", after := #[{ on := 19, ground := Ground.data }, { on := 18, ground := Ground.chain }, { on := 18, ground := Ground.guard }], guard := some (18, false) }) rfl (fun K hK => ?_) AllReadyH.nil)
                go_simp
                (go_at_call 15; (with_reducible refine (dx_open D6).mono ?_); rintro e w7 ⟨rfl, rfl⟩)
                refine hK.out _ _ ?_ (fun hHeld => ?_)
                · first
                  | exact hHeld
                clear hK K
                try simp only [Act.put, List.setIfInBounds_toArray, List.set_cons_zero, List.set_cons_succ]
                (refine wpAnyH_take (i := 26) (oi := { dst := some 93, op := Op.binOp BinOp.neq 3 (Operand.tmp 87) (Operand.tmp 92) 3, type := 4, pos := "law.go:100", after := #[{ on := 20, ground := Ground.data }, { on := 25, ground := Ground.data }, { on := 18, ground := Ground.guard }], guard := some (18, false) }) (v := ?_) rfl (by kernel_rfl) (by kernel_rfl) (by kernel_rfl) (fun _ _ _ h => h) (Or.inl ⟨by rfl, ?_⟩) (by assumption) ?_; rotate_left; · (intro w hSw; (try dsimp only at hSw); go_simp; (first | done | with_reducible rfl)))
                try simp only [Act.put, List.setIfInBounds_toArray, List.set_cons_zero, List.set_cons_succ]
                (refine wpAnyH_take (i := 27) (oi := { dst := some 94, op := Op.pick (Operand.tmp 85) (Operand.const (Value.bool true)) (Operand.tmp 93), type := 4, pos := "law.go:100", after := #[{ on := 18, ground := Ground.data }, { on := 26, ground := Ground.data }], guard := none }) (v := ?_) rfl (by kernel_rfl) (by kernel_rfl) (by kernel_rfl) (fun _ _ _ h => h) (Or.inl ⟨by rfl, ?_⟩) (by assumption) ?_; rotate_left; · (intro w hSw; (try dsimp only at hSw); go_simp; (first | done | with_reducible rfl)))
                try simp only [Act.put, List.setIfInBounds_toArray, List.set_cons_zero, List.set_cons_succ]
                (refine wpAnyH_take (i := 28) (oi := { dst := some 95, op := Op.move (Operand.tmp 94), type := 4, pos := "law.go:100", after := #[{ on := 27, ground := Ground.data }, { on := 20, ground := Ground.chain }], guard := none }) (v := ?_) rfl (by kernel_rfl) (by kernel_rfl) (by kernel_rfl) (fun _ _ _ h => h) (Or.inl ⟨by rfl, ?_⟩) (by assumption) ?_; rotate_left; · (intro w hSw; (try dsimp only at hSw); go_simp; (first | done | with_reducible rfl)))
                try simp only [Act.put, List.setIfInBounds_toArray, List.set_cons_zero, List.set_cons_succ]
                (refine wpAnyH_take (i := 29) (oi := { dst := some 96, op := Op.move (Operand.tmp 5), type := 24, pos := "law.go:100", after := #[{ on := 28, ground := Ground.guard }], guard := some (28, false) }) (v := ?_) rfl (by kernel_rfl) (by kernel_rfl) (by kernel_rfl) (fun _ _ _ h => h) (Or.inl ⟨by rfl, ?_⟩) (by assumption) ?_; rotate_left; · (intro w hSw; (try dsimp only at hSw); go_simp; (first | done | with_reducible rfl)))
                try simp only [Act.put, List.setIfInBounds_toArray, List.set_cons_zero, List.set_cons_succ]
                (refine wpAnyH_take (i := 31) (oi := { dst := some 98, op := Op.move (Operand.tmp 0), type := 3, pos := "law.go:100", after := #[{ on := 28, ground := Ground.guard }], guard := some (28, false) }) (v := ?_) rfl (by kernel_rfl) (by kernel_rfl) (by kernel_rfl) (fun _ _ _ h => h) (Or.inl ⟨by rfl, ?_⟩) (by assumption) ?_; rotate_left; · (intro w hSw; (try dsimp only at hSw); go_simp; (first | done | with_reducible rfl)))
                try simp only [Act.put, List.setIfInBounds_toArray, List.set_cons_zero, List.set_cons_succ]
                refine wpAnyH_ready (rs := [30]) (by kernel_rfl) (by simp) ?_
                refine (AllReadyH.cons (o := { dst := some 97, op := Op.call { callee := Callee.value (Operand.func 16), args := #[Operand.tmp 96], argTypes := #[24] }, type := 3, pos := "law.go:100", after := #[{ on := 29, ground := Ground.data }, { on := 28, ground := Ground.chain }, { on := 28, ground := Ground.guard }], guard := some (28, false) }) rfl (fun K hK => ?_) AllReadyH.nil)
                go_simp
                (go_at_call 16; (with_reducible refine (dx_blocks D6).mono ?_); rintro e w7 ⟨rfl, rfl⟩)
                refine hK.out _ _ ?_ (fun hHeld => ?_)
                · first
                  | exact hHeld
                clear hK K
                try simp only [Act.put, List.setIfInBounds_toArray, List.set_cons_zero, List.set_cons_succ]
                (refine wpAnyH_take (i := 32) (oi := { dst := some 99, op := Op.binOp BinOp.neq 3 (Operand.tmp 97) (Operand.tmp 98) 3, type := 4, pos := "law.go:100", after := #[{ on := 30, ground := Ground.data }, { on := 31, ground := Ground.data }, { on := 28, ground := Ground.guard }], guard := some (28, false) }) (v := ?_) rfl (by kernel_rfl) (by kernel_rfl) (by kernel_rfl) (fun _ _ _ h => h) (Or.inl ⟨by rfl, ?_⟩) (by assumption) ?_; rotate_left; · (intro w hSw; (try dsimp only at hSw); go_simp; (first | done | with_reducible rfl)))
                try simp only [Act.put, List.setIfInBounds_toArray, List.set_cons_zero, List.set_cons_succ]
                (refine wpAnyH_take (i := 33) (oi := { dst := some 100, op := Op.pick (Operand.tmp 95) (Operand.const (Value.bool true)) (Operand.tmp 99), type := 4, pos := "law.go:100", after := #[{ on := 28, ground := Ground.data }, { on := 32, ground := Ground.data }], guard := none }) (v := ?_) rfl (by kernel_rfl) (by kernel_rfl) (by kernel_rfl) (fun _ _ _ h => h) (Or.inl ⟨by rfl, ?_⟩) (by assumption) ?_; rotate_left; · (intro w hSw; (try dsimp only at hSw); go_simp; (first | done | with_reducible rfl)))
                try simp only [Act.put, List.setIfInBounds_toArray, List.set_cons_zero, List.set_cons_succ]
                refine wpAnyH_done (by kernel_rfl) ?_ _
                clear hHeld r3 r2 g6 hs0 g4 HS4 KD
                have hm9 := HL6.out
                go_wp2
                go_roundw
                case rel => exact ⟨k + 1, s6, by go_num, by omega, by omega, D6, HL6, HO6⟩
                case measure => simp only [intOf]; omega
            -- END12
          | false =>
            have hon : s.opn.length ≤ 1000000 := by have := HO.out; omega
            have KD := Lib.hid (fun w' (h : Hid (DX (fun _ => False) W w' d s r s)) (j : Int) => dx_readD j h)
            have KR := Lib.hid (fun w' (h : Hid (DX (fun _ => False) W w' d s r s)) (j : Int) => dx_readR j hon h)
            have HLN := Lib.hid (fun j => dRead_len HD.out.okD j)
            clear HA hon HL HO hd hk hk2
            go_wp2
            go_loopw [9] (fun v9 wr => ∃ j : Int, v9 = .int .i64 j ∧ -1 ≤ j ∧ j ≤ (m : Int) + 1 ∧ Hid (DX (fun _ => False) W wr d s r s)) (fun v9 _ => ((m : Int) + 1 - intOf v9).toNat)
            case atStart => exact ⟨-1, rfl, by omega, by omega, HD.out⟩
            case round =>
              obtain ⟨j, rfl, hj1, hj2, HD2⟩ := hrel
              clear HD
              by_cases hlj : j ≤ (m : Int)
              · have K1 := Lib.hid (KD.out wr HD2 j)
                have K2 := Lib.hid (fun w' h => KR.out w' h j)
                have hlen := HLN.out j
                obtain ⟨pr, hpr⟩ : ∃ pr, dRead s j = pr := ⟨_, rfl⟩
                rw [hpr] at K1 K2 hlen
                clear hpr KD KR HLN
                obtain ⟨B, ev⟩ := pr
                have hlen : B.length = 64 := hlen
                have hEq : Hid (∀ w, (Op.equalIn 10000 40 (.agg (bytesV B).toArray) (.agg (bytesV B).toArray)).run Try.prog w = .ok true w) := fun w => by have := equal40 B B hlen hlen w; simpa using this
                have hG := guard40
                have hone := Lib.hid (bytesV_one' (b := B))
                have hl : (bytesV B).length = 64 := by rw [bytesV_len]; exact hlen
                have HV : Hid (readV (B, ev) = .tuple #[.agg (bytesV B).toArray, .int .i64 ev]) := rfl
                rw [HV.out] at K1 K2
                clear HV hlen
                generalize bytesV B = cs at *
                have hEq2 := hEq.out
                obtain ⟨Z, hZ⟩ : ∃ Z, Z = (bytesV blk0).toArray := ⟨_, rfl⟩
                have hz := fun w => zero40 w
                rw [← hZ] at hz
                have HZ := Lib.hid hZ
                clear hZ
                have hw1 : IntKind.i64.wrap (j + 1) = j + 1 := by rw [IntKind.wrap_i64]; omega
                go_wp2_with (first
                  | (go_at_call 17; ((with_reducible refine K1.out.mono ?_); rintro e w21 ⟨rfl, hg⟩; have P1 := Lib.hid (put_new w21 Z HZ.out 40 cs hl); have G1 := Lib.hid (grew_trans hg P1.out.2.2.1); have F1 := Lib.hid (HD2.out.grows G1.out); clear hg))
                  | (refine wpList_store_mid (by rfl) 40 _ _ (by rfl) w21.heap.size 0 cs.toArray (by rfl) (by rfl) (by simpa [hl] using P1.out.2.1) (size40 (by simpa using hl.symm)) hone.out ?_)
                  | (go_at_call 18; ((with_reducible refine (K2.out _ F1).mono ?_); rintro e w22 ⟨rfl, hg⟩; have P2 := Lib.hid (put_new w22 Z HZ.out 40 cs hl); have F2 := Lib.hid (F1.out.grows (grew_trans hg P2.out.2.2.1)); have Q1 := Lib.hid (rangeAt_of P1.out.1 ((grew_trans hg P2.out.2.2.1).block _ P1.out.2.2.2.2)); clear hg))
                  | (refine wpList_store_mid (by rfl) 40 _ _ (by rfl) w22.heap.size 0 cs.toArray (by rfl) (by rfl) (by simpa [hl] using P2.out.2.1) (size40 (by simpa using hl.symm)) hone.out ?_)
                  | (refine wpList_load_mid (by rfl) 40 _ (by rfl) w21.heap.size 0 (by rfl) cs _ Q1.out Try.underlying40 rfl (size40 hl.symm) ?_)
                  | (refine wpList_load_mid (by rfl) 40 _ (by rfl) w22.heap.size 0 (by rfl) cs _ P2.out.1 Try.underlying40 rfl (size40 hl.symm) ?_))
                generalize (w22.alloc (.cells Z 40)).setCells w22.heap.size 0 cs = w23 at *
                go_roundw
                case rel => exact ⟨j + 1, rfl, by omega, by omega, F2⟩
                case measure => simp only [intOf]; omega
              · have hj3 : ¬ j ≤ (m : Int) := hlj
                have KW := Lib.hid (CW.out wr)
                clear CW KD KR HLN
                go_wp2_with (go_at_call 11; ((with_reducible refine KW.out.mono ?_); rintro e w31 ⟨rfl, hg⟩; have GE := Lib.hid (grew_trans HD2.out.grew hg); clear hg))
                go_ret
                exact ⟨rfl, GE.out⟩
theorem diskExact_row (n : Int) (A1 : Option Addr) (n1 c1 : Nat) (l : List AcV) (W : World) (h : Row spAct W A1 n1 l) :
    Calls Try.prog 3 #[.int .i64 n, .slice A1 n1 c1] W fun e w' => e = .returned (.bool true) ∧ Grew W w' :=
  diskExact_walk n A1 n1 c1 _ W (acts_of_row h)
end Go.Proofs.Ytgaopkfdbglnmaa.NumK
