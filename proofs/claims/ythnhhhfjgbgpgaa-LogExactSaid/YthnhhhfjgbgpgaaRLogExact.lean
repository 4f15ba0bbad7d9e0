/-
  For every number of blocks, and whatever is begun, appended, synced, armed, crashed, opened anew or laid on the disk by hand: each answer, snapshot, records and block of the log is what the document (P7.1 to P7.3) says; more acts, rows, bytes, picks or blocks than the statement names it lets by.
-/
import Derived.Test.YthnhhhfjgbgpgaaRLxJ
import Derived.Test.YthnhhhfjgbgpgaaRLxK
import Derived.Test.YthnhhhfjgbgpgaaRJnN
import Derived.Test.YthnhhhfjgbgpgaaRows
import Derived.WalkKit
import Derived.ProofKit
import Derived.OpenShut
import Derived.ShutString
import Derived.ChangeOld
import Derived.Below
import Derived.Carry
namespace Go.Proofs.Ythnhhhfjgbgpgaa.NumK
open Go.RowKit

theorem lx_grows {N : Nat → Prop} {w0 w w' : World} {pb d q : Nat} {s : DS} {o : Option (Nat × Nat × LS)} (h : LX N w0 w pb d q s o) (g : Grew w w') : LX N w0 w' pb d q s o := by
  cases o with
  | none => exact ⟨h.1.grew g, h.2.grows (stb_PD _ _) (stb_RD _ _) g⟩
  | some x => obtain ⟨lb, lr, l⟩ := x; exact ⟨h.1.grew g, SX.grows h.2 (stb_PJ _ _ _ _) (stb_RJ _ _ _ _) g⟩
theorem lx_sx {N : Nat → Prop} {w0 w : World} {pb d q : Nat} {s : DS} {o : Option (Nat × Nat × LS)} (h : LX N w0 w pb d q s o) : (∃ lp rp, PairC w pb lp d rp q) ∧ SX N w0 w (PD d s) (RD q s) := by
  cases o with
  | none => exact ⟨⟨_, _, h.1⟩, h.2⟩
  | some x => obtain ⟨lb, lr, l⟩ := x; exact ⟨⟨_, _, h.1⟩, SX.toD h.2⟩
theorem sx_qoff {N : Nat → Prop} {w0 w : World} {q : Nat} {s : DS} {P : World → (Nat → Prop) → Prop} (h : SX N w0 w P (RD q s)) : w.cell? ⟨q, 3, none⟩ = some (.bool s.off) := by
  obtain ⟨Fp, Fr, _, h2, _⟩ := h.ex
  exact (rk_off h2).2.2
theorem pair_new {w0 w : World} {d q : Nat} {s : DS} (h : SX (fun _ => False) w0 w (PD d s) (RD q s)) (t : TypeId) : PairC (w.alloc (.cells #[.pointer none, .pointer (some ⟨d, 0, none⟩), .pointer none, .pointer (some ⟨q, 0, none⟩)] t)) w.heap.size none d none q ∧
    SX (fun k => k = w.heap.size) w0 (w.alloc (.cells #[.pointer none, .pointer (some ⟨d, 0, none⟩), .pointer none, .pointer (some ⟨q, 0, none⟩)] t)) (PD d s) (RD q s) ∧ w0.heap.size ≤ w.heap.size := by
  obtain ⟨h1, h2⟩ := alloc_range w [.pointer none, .pointer (some ⟨d, 0, none⟩), .pointer none, .pointer (some ⟨q, 0, none⟩)] t
  exact ⟨⟨h1, h2, by simp⟩, h.besides (stb_PD _ _) (stb_RD _ _) (grew_alloc _ _ _) (fun k hk => Or.inr (by rw [hk]; simp)), h.grew.size⟩

set_option maxRecDepth 100000 in
set_option maxHeartbeats 8000000 in
theorem logExact_walk (n : Int) (A1 : Option Addr) (n1 c1 : Nat) (l : List At7) (W : World) (hA : Ats7 W A1 n1 l) :
    Calls Try.prog 3 #[.int .i64 n, .slice A1 n1 c1] W fun e w' => e = .returned (.bool true) ∧ Grew W w' := by
  have HA := Lib.hid hA
  have CH := Lib.hid (heavy7_any A1 n1 c1 l W hA)
  clear hA
  by_cases h1 : n < 1 ∨ 300 < n
  · by_cases h2 : n < 1
    · clear h1
      go_enter Try.func3, Try.ntmps3
      go_wp2_with (first
        | (go_at_call 4; ((with_reducible refine CH.out.mono ?_); rintro e w1 ⟨rfl, hor⟩; rcases hor with rfl | ⟨rfl, -⟩)))
      all_goals go_ret
      all_goals exact ⟨rfl, grew_refl _⟩
    · have h3 : 300 < n := by omega
      clear h1
      go_enter Try.func3, Try.ntmps3
      go_wp2_with (first
        | (go_at_call 4; ((with_reducible refine CH.out.mono ?_); rintro e w1 ⟨rfl, hor⟩; rcases hor with rfl | ⟨rfl, -⟩)))
      all_goals go_ret
      all_goals exact ⟨rfl, grew_refl _⟩
  · obtain ⟨m, rfl⟩ : ∃ m : Nat, n = (m : Int) := ⟨n.toNat, by omega⟩
    have CN := Lib.hid (fun w => new_any m w (by omega) (by omega))
    have CR := Lib.hid (fun w => rnew_any m w (by omega) (by omega))
    have q1 : ¬ (m : Int) < 1 := by omega
    have q2 : ¬ (300 : Int) < (m : Int) := by omega
    have hm1 : 1 ≤ m := by omega
    have hm2 : m ≤ 300 := by omega
    clear h1
    go_enter Try.func3, Try.ntmps3
    go_wp2_with (first
      | (go_at_call 4; ((with_reducible refine CH.out.mono ?_); rintro e w1 ⟨rfl, hor⟩; rcases hor.symm with ⟨rfl, hlt⟩ | rfl; have HLT := Lib.hid hlt; clear hlt))
      | (go_at_call 5; ((with_reducible refine (CN.out _).mono ?_); rintro e w2 hp; obtain ⟨d, rfl, hd, -⟩ := di_new (N := fun _ => False) (grew_refl W) (fun _ h => h.elim) hp; have D0 := Lib.hid hd; clear hd hp))
      | (go_at_call 6; ((with_reducible refine (CR.out _).mono ?_); rintro e w3 hp; obtain ⟨q, rfl, hd⟩ := dx_new D0.out hp; have HP0 := Lib.hid (pair_new (t := 34) (⟨hd.ex, hd.grew, hd.nlt⟩ : SX (fun _ => False) W w3 (PD d (dNew m)) (RD q (dNew m)))); have KO1 := Lib.hid (popen_any (N := fun k => k = w3.heap.size) rfl HP0.out.2.2 HP0.out.1 HP0.out.2.1 (by simp [dNew])); clear hd hp))
      | (go_at_call 7; ((with_reducible refine KO1.out.mono ?_); rintro e w4 ⟨rfl, hx, -⟩; have HX4 := hx; clear hx)))
    rotate_left
    · go_ret
      exact ⟨rfl, grew_refl _⟩
    obtain ⟨pb, hpb⟩ : ∃ pb, pb = w3.heap.size := ⟨_, rfl⟩
    have HPB : Hid (W.heap.size ≤ pb) := by rw [hpb]; exact HP0.out.2.2
    rw [← hpb] at HX4 ⊢
    obtain ⟨o0, hlx0, -⟩ := HX4.out
    have HLX0 := Lib.hid hlx0
    clear CN CR CH D0 HP0 KO1 HX4 hpb hlx0
    go_loopw [8] (fun v8 wr => ∃ (k : Nat) (s : DS) (o : Option (Nat × Nat × LS)), v8 = .int .i64 k ∧ k ≤ n1 ∧ k ≤ 60 ∧ Hid (LX (fun k => k = pb) W wr pb d q s o) ∧ Hid (s.off = false) ∧ Hid (s.safe.length = m) ∧ Hid (s.opn.length ≤ 400 * k)) (fun v8 _ => n1 - (intOf v8).toNat)
    case atStart => exact ⟨0, dNew m, o0, rfl, Nat.zero_le _, Nat.zero_le _, HLX0, rfl, by show _ = _; simp [dNew], by show 0 ≤ _; omega⟩
    case round =>
      obtain ⟨k, s, o, rfl, hk, hk2, HLX, HOFF, HLEN, HOPN⟩ := hrel
      clear HLX0
      have j0 : (0 : Int) ≤ (k : Int) := by omega
      by_cases hlt : k < n1
      · have j1 : (k : Int) < (n1 : Int) := by omega
        by_cases hlt2 : k < 60
        · have j2 : (k : Int) < 60 := by omega
          cases o with
          | none =>
            have z0 := HLX.out.1.cells.1
            have KWK := Lib.hid (wakes07_any wr)
            have HGW := Lib.hid (lx_sx HLX.out).2.grew
            go_wp2_with (go_at_call 14; ((with_reducible refine KWK.out.mono ?_); rintro e w9 ⟨rfl, hg⟩; have HG9 := Lib.hid (grew_trans HGW.out hg); clear hg))
            go_ret
            exact ⟨rfl, HG9.out⟩
          | some ox =>
            obtain ⟨lb, lr, lg⟩ := ox
            have z0 := HLX.out.1.cells.1
            have hsx : SX (fun k => k = pb) W wr (PJ lb d s lg) (RJ lr q s lg) := HLX.out.2
            have gW := hsx.grew
            obtain ⟨b, o', rfl, hb, hc⟩ := HA.out.2 (by omega)
            obtain ⟨A2, n2, c2, A3, n3, c3, A4, n4, c4, hI, g0, g1, g2, g3, g4⟩ := hc k hlt
            obtain ⟨x, hx⟩ : ∃ x, l.getD k default = x := ⟨_, rfl⟩
            have hlight := HLT.out k hlt hlt2
            rw [hx] at hI g0 g1 hlight
            have HCL : Hid (∀ w', Grew W w' → w'.cell? ⟨b, o' + k * 5 + 4, none⟩ = some (.slice A4 n4 c4)) := fun w' g => (grew_cell g (p := ⟨b, o' + k * 5 + 4, none⟩) hb).trans g4
            have g0 := (grew_cell gW (p := ⟨b, o' + k * 5, none⟩) hb).trans g0
            have g1 := (grew_cell gW (p := ⟨b, o' + k * 5 + 1, none⟩) hb).trans g1
            have g2 := (grew_cell gW (p := ⟨b, o' + k * 5 + 2, none⟩) hb).trans g2
            have g3 := (grew_cell gW (p := ⟨b, o' + k * 5 + 3, none⟩) hb).trans g3
            have g4 := (grew_cell gW (p := ⟨b, o' + k * 5 + 4, none⟩) hb).trans g4
            have KST := Lib.hid (pstep_any x A2 n2 c2 A3 n3 c3 A4 n4 c4 hI hlight (N := fun k => k = pb) rfl HPB.out HLX.out.1 hsx HOFF.out (by have := HOPN.out; omega) (by have := HLEN.out; omega) (by have := HLEN.out; omega))
            have HI4 : Hid (Ints W A4 n4 x.P ∧ n4 ≤ 9223372036854775807) := ⟨hI.i4, hI.k4⟩
            clear hc hI hx hlight hsx gW hb
            go_upto_region 14 with (first
              | (go_at_call 8; ((with_reducible refine KST.out.mono ?_); rintro e w6 ⟨rfl, hx⟩; obtain ⟨s6, o6, hlx6, hl6, hp6⟩ := hx.out; have HLX6 := Lib.hid hlx6; have HLEN6 : Hid (s6.safe.length = m) := hl6.trans HLEN.out; have HOPN6 : Hid (s6.opn.length ≤ 400 * (k + 1)) := (by show _ ≤ _; have := HOPN.out; omega); clear hx hlx6 hl6 hp6)))
            clear z0 g0 g1 g2 g3 g4 KST HLX HOFF HLEN HOPN
            obtain ⟨⟨lp, rp, hpc⟩, hsx6⟩ := lx_sx HLX6.out
            obtain ⟨-, y1, -, y3⟩ := hpc.cells
            have yo := sx_qoff hsx6
            cases hoffx : s6.off with
            | false =>
              rw [hoffx] at yo
              clear hpc hsx6
              cases o6 with
              | none =>
                have z0 := HLX6.out.1.cells.1
                have HOFF6 := Lib.hid hoffx
                go_wp2
                go_roundw
                case rel => exact ⟨k + 1, _, none, by go_num, by omega, by omega, HLX6, HOFF6, HLEN6, HOPN6⟩
                case measure => simp only [intOf]; omega
              | some ox =>
                obtain ⟨lb2, lr2, l2⟩ := ox
                have z0 := HLX6.out.1.cells.1
                have HOFF6 := Lib.hid hoffx
                have KSM := Lib.hid (same_any HLX6.out.1 HLX6.out.2 hoffx (by have := HOPN6.out; omega) (by have := HLEN6.out; omega))
                clear hoffx
                go_wp2_with (go_at_call 13; ((with_reducible refine KSM.out.mono ?_); rintro e w9 ⟨rfl, hg⟩; have HLX9 := Lib.hid (lx_grows HLX6.out hg); clear hg))
                go_roundw
                case rel => exact ⟨k + 1, _, _, by go_num, by omega, by omega, HLX9, HOFF6, HLEN6, HOPN6⟩
                case measure => simp only [intOf]; omega
            | true =>
              rw [hoffx] at yo
              have HPC := Lib.hid hpc
              have HS0 : Hid (SX (fun k => k = pb) W w6.drew (PD d s6) (RD q s6)) := hsx6.grows (stb_PD _ _) (stb_RD _ _) (grew_drew (grew_refl _))
              have HGW6 := Lib.hid hsx6.grew
              have K1 := Lib.hid (sx_crashD (stb_RD q s6) HS0 A4 n4 c4 x.P HI4.out.1 HI4.out.2 (by have := HOPN6.out; omega))
              have HKP : Hid (∀ w', Chg (Mine (fun k => k = pb) W) w6 w' → PairC w' pb lp d rp q) := fun w' g => HPC.out.of (g.block pb HPC.out.2.2 (fun hm => hm.2 rfl)) g.size
              have b1 : w6.drew.cell? ⟨pb, 1, none⟩ = some (.pointer (some ⟨d, 0, none⟩)) := y1
              have b4 : w6.drew.cell? ⟨b, o' + k * 5 + 4, none⟩ = some (.slice A4 n4 c4) := HCL.out w6.drew (grew_trans HGW6.out (grew_drew (grew_refl _)))
              clear hpc hsx6
              go_upto_region 15 with fail
              go_region_held3 (fun w' => w'.cell? ⟨pb, 1, none⟩ = some (.pointer (some ⟨d, 0, none⟩)) ∧ w'.cell? ⟨b, o' + k * 5 + 4, none⟩ = some (.slice A4 n4 c4))
                (first | exact ⟨b1, b4⟩ | exact ⟨z1, z4⟩)
                (first
                  | (go_at_call 9; ((with_reducible refine K1.out.mono ?_); rintro e w7 ⟨rfl, hs1, hc1⟩; have HS1 := hs1; have HC1 : Hid (Chg (Mine (fun k => k = pb) W) w6 w7) := (Chg.refl _ _).drew.trans hc1; have z4 := HCL.out w7 hs1.out.grew; obtain ⟨-, z1, -, z3⟩ := (HKP.out w7 HC1.out).cells; clear hs1 hc1)))
              clear b1 b4 y1 y3 yo K1 HS0
              have HS2 : Hid (SX (fun k => k = pb) W w7.drew (PD d (dCrash s6 x.P)) (RD q s6)) := HS1.out.grows (stb_PD _ _) (stb_RD _ _) (grew_drew (grew_refl _))
              have K2 := Lib.hid (sx_crashR (stb_PD d (dCrash s6 x.P)) HS2 A4 n4 c4 x.P HI4.out.1 HI4.out.2 (by have := HOPN6.out; omega))
              go_upto_region 16 with fail
              go_region_held3 (fun w' => w'.cell? ⟨pb, 3, none⟩ = some (.pointer (some ⟨q, 0, none⟩)) ∧ w'.cell? ⟨b, o' + k * 5 + 4, none⟩ = some (.slice A4 n4 c4))
                (first | exact ⟨z3, z4⟩ | exact ⟨y3, y4⟩)
                (first
                  | (go_at_call 10; ((with_reducible refine K2.out.mono ?_); rintro e w8 ⟨rfl, hs1, hc1⟩; have HS3 := hs1; have HC2 : Hid (Chg (Mine (fun k => k = pb) W) w6 w8) := HC1.out.trans ((Chg.refl _ _).drew.trans hc1); have y4 := HCL.out w8 hs1.out.grew; obtain ⟨-, y1, -, y3⟩ := (HKP.out w8 HC2.out).cells; clear hs1 hc1)))
              clear z1 z3 z4 K2 HS1 HS2 y4
              have hl := after_len s6 x.P
              have ho7 : (dStart (dCrash s6 x.P)).off = false := by unfold dStart dCrash; simp
              have K3 := Lib.hid (sx_startD (stb_RD _ _) HS3 (by show (dCrash s6 x.P).opn.length ≤ _; unfold dCrash; simp))
              have K4 := Lib.hid (fun w3 (h : Hid (SX (fun k => k = pb) W w3 (PD d (dStart (dCrash s6 x.P))) (RD q (dCrash s6 x.P)))) => sx_startR (stb_PD _ _) h (by show (dCrash s6 x.P).opn.length ≤ _; unfold dCrash; simp))
              have K5 := Lib.hid (fun w4 (hp : PairC w4 pb lp d rp q) (h : Hid (SX (fun k => k = pb) W w4 (PD d (dStart (dCrash s6 x.P))) (RD q (dStart (dCrash s6 x.P))))) => popen_any (N := fun k => k = pb) rfl HPB.out hp h.out (by rw [hl.2]; simp))
              have HLEN7 : Hid ((dStart (dCrash s6 x.P)).safe.length = m) := hl.1.trans HLEN6.out
              have HOPN7 : Hid ((dStart (dCrash s6 x.P)).opn.length ≤ 400 * (k + 1)) := by show _ ≤ _; rw [hl.2]; simp
              clear hl hoffx
              generalize dStart (dCrash s6 x.P) = s7 at *
              go_upto_region 21 with (first
                | (go_at_call 11; ((with_reducible refine K3.out.mono ?_); rintro e w9 ⟨rfl, hs1, hc1⟩; have HS4 := hs1; have HC3 : Hid (Chg (Mine (fun k => k = pb) W) w6 w9) := HC2.out.trans hc1; obtain ⟨-, x1, -, x3⟩ := (HKP.out w9 HC3.out).cells; clear hs1 hc1))
                | (go_at_call 12; ((with_reducible refine (K4.out _ HS4).mono ?_); rintro e w10 ⟨rfl, hs1, hc1⟩; have HS5 := hs1; have HC4 : Hid (Chg (Mine (fun k => k = pb) W) w6 w10) := HC3.out.trans hc1; have HP4 := Lib.hid (HKP.out w10 HC4.out); clear hs1 hc1))
                | (go_at_call 7; ((with_reducible refine (K5.out _ HP4.out HS5).mono ?_); rintro e w11 ⟨rfl, hx, -⟩; obtain ⟨o7, hlx7, -⟩ := hx.out; have HLX7 := Lib.hid hlx7; clear hx hlx7)))
              have hoffx := ho7
              clear ho7
              cases o7 with
              | none =>
                have z0 := HLX7.out.1.cells.1
                have HOFF7 := Lib.hid hoffx
                go_wp2
                go_roundw
                case rel => exact ⟨k + 1, _, none, by go_num, by omega, by omega, HLX7, HOFF7, HLEN7, HOPN7⟩
                case measure => simp only [intOf]; omega
              | some ox =>
                obtain ⟨lb2, lr2, l2⟩ := ox
                have z0 := HLX7.out.1.cells.1
                have HOFF7 := Lib.hid hoffx
                have KSM := Lib.hid (same_any HLX7.out.1 HLX7.out.2 hoffx (by have := HOPN7.out; omega) (by have := HLEN7.out; omega))
                clear hoffx
                go_wp2_with (go_at_call 13; ((with_reducible refine KSM.out.mono ?_); rintro e w9 ⟨rfl, hg⟩; have HLX9 := Lib.hid (lx_grows HLX7.out hg); clear hg))
                go_roundw
                case rel => exact ⟨k + 1, _, _, by go_num, by omega, by omega, HLX9, HOFF7, HLEN7, HOPN7⟩
                case measure => simp only [intOf]; omega
        · have j2 : ¬ (k : Int) < 60 := by omega
          have KWK := Lib.hid (wakes07_any wr)
          have HGW := Lib.hid (lx_sx HLX.out).2.grew
          go_wp2_with (go_at_call 14; ((with_reducible refine KWK.out.mono ?_); rintro e w9 ⟨rfl, hg⟩; have HG9 := Lib.hid (grew_trans HGW.out hg); clear hg))
          go_ret
          exact ⟨rfl, HG9.out⟩
      · obtain rfl : n1 = k := by omega
        have KWK := Lib.hid (wakes07_any wr)
        have HGW := Lib.hid (lx_sx HLX.out).2.grew
        go_wp2_with (go_at_call 14; ((with_reducible refine KWK.out.mono ?_); rintro e w9 ⟨rfl, hg⟩; have HG9 := Lib.hid (grew_trans HGW.out hg); clear hg))
        go_ret
        exact ⟨rfl, HG9.out⟩

/-- Over the arguments as they come. -/
theorem logExact_row (n : Int) (A1 : Option Addr) (n1 c1 : Nat) (l : List At7V) (W : World) (h : Row spAt7 W A1 n1 l) :
    Calls Try.prog 3 #[.int .i64 n, .slice A1 n1 c1] W fun e w' => e = .returned (.bool true) ∧ Grew W w' := by
  obtain ⟨xs, hx⟩ := ats7_of_row h
  exact logExact_walk n A1 n1 c1 xs W hx
end Go.Proofs.Ythnhhhfjgbgpgaa.NumK
namespace Go.Proofs.Ythnhhhfjgbgpgaa.logExact
open Go.ChangeShapes Go.WideShapes Go.ChangeAt Go.RowKit
set_option linter.unusedVariables false

theorem own : ownKnob Try.prog.godebug = none := by kernel_rfl
theorem laidOut : laidOutB Try.prog = true := by kernel_rfl

set_option maxRecDepth 100000 in
theorem lifted (os : Os) (started : os.Started) (H : Type) (enc : TypeId × Value → H) :
    ReturnsInHanded {} Try.checked os 3 .any (Rows.logExactSpec.pre6 enc Try.prog Try.f3 Rows.logExactRow.domain false) (Rows.logExactSpec.post enc Try.prog Try.f3 false true false false) := by
  refine returnsInHanded_of_change (C := Try.checked) own started (by kernel_rfl) Try.func3
    (ChangeSpec.witness6 (enc := enc) (C := Try.checked) false ⟨#[], #[.int .i64 0, .slice none 0 0], []⟩ 8 (by kernel_rfl) (by kernel_rfl) (by kernel_rfl) (by kernel_rfl)) ?_
  intro W base args ds gs before hval0 hW hcnd _
  have hval : ∀ (j : Nat) t v, Try.f3.params[j]? = some t → args[j]? = some v → Value.okWide Try.prog W .any base t v := hval0
  have hW' := hW
  obtain ⟨p, q, hA0, hV, rfl, hfz, hnd⟩ := hW
  have hA : DataW.TrodAll enc Try.prog W 0 (fun _ => true) true Try.f3.params.toList args.toList ds p := hA0
  skip
  rw [Try.params3] at hA hval
  obtain ⟨v0, vs0, d0, ds0, p0, q0, hargs, rfl, rfl, h0, r0⟩ := trodAll_cons hA
  obtain ⟨v1, vs1, d1, ds1, p1, q1, rfl, rfl, rfl, h1, r1⟩ := trodAll_cons r0
  obtain ⟨rfl, rfl, rfl⟩ := trodAll_nil r1
  obtain rfl : args = #[v0, v1] := by cases args; simp_all
  obtain ⟨rfl, rfl⟩ := trodVars_none hV
  obtain ⟨a0, rfl, rfl, rfl, w0⟩ := open_int Try.underlying3 (hval 0 3 v0 rfl rfl) h0
  have k1 := h1
  have lt1 : ∀ x ∈ p1, x.block < W.heap.size := by obtain ⟨m, hm⟩ := k1; exact DataW.trod_lt m _ _ _ hm
  obtain ⟨A1, len1, cap1, l1, rfl, ro1, n1, c1, m1⟩ := NumK.arg_slice Try.underlying22 NumK.opens_ats7 (hval 1 22 v1 rfl rfl) h1
  clear hA0 hval0
  refine (NumK.logExact_row a0 A1 len1 cap1 l1 W ro1).mono fun e W' ⟨he, bel⟩ => ?_
  subst he
  exact ⟨_, rfl, _, _, _, [], _, [], hW', trodAll_mk1 (shut_bool Try.underlying4 _), (trodAll_cons_mk (shut_int Try.underlying3 w0) (trodAll_cons_mk (Below.trod laidOut (by kernel_rfl) (of_decide_eq_true (by kernel_rfl)) k1 bel lt1) trodAll_mk0)), rfl, bel.frame _, fun h => by cases h⟩

theorem over : Rows.logExactRow.holds Try.pinned (OpenSpec.ofChange Rows.logExactSpec) :=
  OpenClaim.holds_of_wide 3 Try.f3 rfl rfl rfl rfl rfl rfl rfl ⟨rfl, rfl, rfl, rfl, rfl⟩ rfl rfl rfl rfl rfl (by kernel_rfl) Try.func3 (by kernel_rfl)
    (of_decide_eq_true (by kernel_rfl)) (by unfold Func.isWrapper; first | (rw [if_pos (by decide +kernel)]; kernel_rfl) | (rw [if_neg (by decide +kernel)]; exact ⟨rfl, rfl⟩))
    (fun os started H enc _ => lifted os started H enc)

/-! ### the statement -/
theorem proved : Rows.LogExactSaid := over
end Go.Proofs.Ythnhhhfjgbgpgaa.logExact
