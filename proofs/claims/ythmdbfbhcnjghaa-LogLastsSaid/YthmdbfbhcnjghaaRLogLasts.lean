/-
  For every lives, wherever the power goes: found are the last snapshot that was begun, all records behind it that were synced, and a beginning of the others; or, where it went in a Begin, the new snapshot (P7.4); lives beyond the sizes that the statement names it lets by.
-/
import Derived.Test.YthmdbfbhcnjghaaRLasts
import Derived.Deep.CutBlock
import Derived.Deep.RegionLaw
import Derived.Test.YthmdbfbhcnjghaaRows
import Derived.WalkKit
import Derived.ProofKit
import Derived.OpenShut
import Derived.ShutString
import Derived.ChangeOld
import Derived.Below
import Derived.Carry
namespace Go.Proofs.Ythmdbfbhcnjghaa.NumK
open Go.RowKit

/-- Between two lives: the disk, what was begun, what is safe, all of it. -/
structure LI (N : Nat → Prop) (W wr : World) (q : Nat) (s : DS) (i : Nat) (snap : List UInt8) (safe all : List (List UInt8)) (A5 A6 A7 : Option Addr) (n5 n6 n7 c7 : Nat) : Prop where
  di : DI N W wr q s
  bl : BL s i
  fnd : Fnd (lPick s) snap safe all
  mem : Stab (Mine N W) wr (fun w => Bys w A5 n5 snap ∧ RowsB w A6 n6 safe ∧ RowsB w A7 n7 all)
  k5 : n5 ≤ 1000000
  kc : n7 ≤ c7
theorem bys_nil (w : World) : Bys w none 0 [] := ⟨rfl, fun h => absurd h (by omega)⟩
theorem rowsB_nil (w : World) : RowsB w none 0 [] := ⟨rfl, fun h => absurd h (by omega)⟩
theorem li_new {W w : World} {q : Nat} (h : DI N0 W w q (dNew 400)) : LI N0 W w q (dNew 400) 0 [] [] [] none none none 0 0 0 0 :=
  ⟨h, bl_new, by rw [lPick_new]; exact ⟨rfl, by simp, by simp, by simp⟩, fun w' _ => ⟨bys_nil _, rowsB_nil _, rowsB_nil _⟩, by omega, by omega⟩
theorem LI.found {N N' : Nat → Prop} {W wr w : World} {q lb : Nat} {s : DS} {i : Nat} {snap : List UInt8} {safe all : List (List UInt8)} {A5 A6 A7 : Option Addr} {n5 n6 n7 c7 : Nat} (h : LI N W wr q s i snap safe all A5 A6 A7 n5 n6 n7 c7) (g : Grew wr w) (hj : JI N' W w lb q s (lPick s)) (c5 c6 : Nat) :
    Calls Try.prog 24 #[.pointer (some ⟨lb, 0, none⟩), .slice A5 n5 c5, .slice A6 n6 c6, .slice A7 n7 c7] w fun e w' => e = .returned (.bool true) ∧ Grew w w' := by
  obtain ⟨m1, m2, m3⟩ := h.mem w g.chg
  have := found_any w hj A5 A6 A7 n5 n6 n7 c5 c6 c7 snap safe all m1 m2 m3 h.k5 h.kc
  rw [decide_eq_true h.fnd] at this
  exact this
theorem LI.opens {N : Nat → Prop} {W wr : World} {q : Nat} {s : DS} {i : Nat} {snap : List UInt8} {safe all : List (List UInt8)} {A5 A6 A7 : Option Addr} {n5 n6 n7 c7 : Nat} (h : LI N W wr q s i snap safe all A5 A6 A7 n5 n6 n7 c7) : lOpen s = 0 := lOpen_ok h.bl.on (by rw [h.bl.len]; omega)

theorem range5x {w : World} {b : Nat} {c0 c1 c2 c3 c4 : Value} (h : w.rangeAt b 0 [c0, c1, c2, c3, c4]) : w.cell? ⟨b, 0, none⟩ = some c0 ∧ w.cell? ⟨b, 1, none⟩ = some c1 ∧ w.cell? ⟨b, 2, none⟩ = some c2 ∧ w.cell? ⟨b, 3, none⟩ = some c3 ∧ w.cell? ⟨b, 4, none⟩ = some c4 := by
  obtain ⟨h0, h1, h2, h3, h4⟩ := range5 h
  simp only [Nat.zero_add] at h1 h2 h3 h4
  exact ⟨h0, h1, h2, h3, h4⟩
/-- What Begin leads to. -/
def BegO (s s1 : DS) (l1 : LS) (i : Nat) (r : Int) (snap : List UInt8) : Prop :=
  (r = 0 ∧ ∃ a g, l1 = lgL a g snap [] true ∧ s1.off = false ∧ s1.opn = [] ∧ LG s1 a g snap [] [] ∧ s1.safe.length = 400 ∧ g ≤ i + 1) ∨
  (r = 7 ∧ s1.off = true ∧ s1.safe.length = 400 ∧ s1.opn.length ≤ 1000 ∧ ∀ picks, lPick (dAfter s1 picks) = lPick s ∨ ∃ a g, lPick (dAfter s1 picks) = lgL a g snap [] false ∧ g ≤ i + 1)
theorem begO {s : DS} {i : Nat} (h : BL s i) (hi : i ≤ 12) (arm : Int) (snap : List UInt8) (hp : snap.length ≤ 300) : ∃ r s1 l1, lBegin (dArm s arm) (lPick s) snap = (r, s1, l1) ∧ BegO s s1 l1 i r snap := by
  rcases bl_begin h hi arm snap hp with ⟨s1, a, g, e, h1⟩ | ⟨s1, l1, e, h1⟩
  · exact ⟨0, s1, _, e, Or.inl ⟨rfl, a, g, rfl, h1⟩⟩
  · exact ⟨7, s1, l1, e, Or.inr ⟨rfl, h1⟩⟩
theorem li_end {N : Nat → Prop} {W w' : World} {q i a g : Nat} {sk : DS} {snap : List UInt8} {wv r : List (List UInt8)} {zs : List Int} {A5 A6 A7 : Option Addr} {n5 n6 n7 c7 : Nat} (D : DI N W w' q (dAfter sk zs)) (L : LG sk a g snap wv r) (hlen : sk.safe.length = 400) (hg : g ≤ i + 1) (all : List (List UInt8)) (hall : ∃ more, all = wv ++ r ++ more)
    (mem : Stab (Mine N W) w' (fun w => Bys w A5 n5 snap ∧ RowsB w A6 n6 wv ∧ RowsB w A7 n7 all)) (k5 : n5 ≤ 1000000) (kc : n7 ≤ c7) : LI N W w' q (dAfter sk zs) (i + 1) snap wv all A5 A6 A7 n5 n6 n7 c7 := by
  obtain ⟨h1, h2⟩ := life_end L all hall zs
  exact ⟨D, bl_after hlen zs (by rw [h2]; exact hg), h1, mem, k5, kc⟩
set_option maxRecDepth 100000 in
set_option maxHeartbeats 8000000 in
theorem logLasts_walk (A0 : Option Addr) (n0 c0 : Nat) (xs : List Lf) (W : World) (hl : Lives W A0 n0 xs) :
    Calls Try.prog 4 #[.slice A0 n0 c0] W fun e w' => e = .returned (.bool true) ∧ Grew W w' := by
  by_cases h0 : 12 < n0
  · have d0 : (12 : Int) < (n0 : Int) := by omega
    clear hl
    go_enter Try.func4, Try.ntmps4
    go_wp2
    go_ret
    exact ⟨rfl, grew_refl _⟩
  have d0 : ¬ (12 : Int) < (n0 : Int) := by omega
  have CN : Hid (Calls Try.prog 12 #[.int .i64 400] W fun e w' => ∃ q, e = .returned (.tuple #[.pointer (some ⟨q, 0, none⟩), .int .i64 0]) ∧ DI N0 W w' q (dNew 400)) := newD 400 W (by omega) (by omega)
  have HL := Lib.hid hl
  clear hl
  go_enter Try.func4, Try.ntmps4
  go_upto_region 9 with (first
    | (go_at_call 12; ((with_reducible refine CN.out.mono ?_); rintro e w1 ⟨q, rfl, hd⟩; have D0 := Lib.hid (li_new hd); clear hd)))
  clear CN
  go_loopw [5, 6, 7, 8] (fun v5 v6 v7 v8 wr => ∃ (i : Nat) (s : DS) (N : Nat → Prop) (snap : List UInt8) (safe all : List (List UInt8)) (A5 A6 A7 : Option Addr) (n5 n6 n7 c5 c6 c7 : Nat), v8 = .int .i64 i ∧ v5 = .slice A5 n5 c5 ∧ v6 = .slice A6 n6 c6 ∧ v7 = .slice A7 n7 c7 ∧ i ≤ n0 ∧ Hid (LI N W wr q s i snap safe all A5 A6 A7 n5 n6 n7 c7)) (fun _ _ _ v8 _ => n0 - (intOf v8).toNat)
  case atStart => exact ⟨0, dNew 400, N0, [], [], [], none, none, none, 0, 0, 0, 0, 0, 0, rfl, rfl, rfl, rfl, Nat.zero_le _, D0⟩
  case round =>
    obtain ⟨i, s, N, snap, safe, all, A5, A6, A7, n5, n6, n7, c5, c6, c7, rfl, rfl, rfl, rfl, hi, HI⟩ := hrel
    clear D0
    by_cases hlt : i < n0
    · have a3 : (i : Int) < (n0 : Int) := by omega
      obtain ⟨b, o, rfl, hbw, hat⟩ := HL.out.2 (by omega)
      obtain ⟨X0, y0, z0, X1, y1, z1, X2, y2, z2, X4, y4, z4, hin, hc2, hc2n, g0, g1, g2, g3, g4⟩ := hat i hlt
      have gw := HI.out.di.grew
      replace g0 := (grew_cell gw (p := ⟨b, o + i * 5, none⟩) hbw).trans g0
      replace g1 := (grew_cell gw (p := ⟨b, o + i * 5 + 1, none⟩) hbw).trans g1
      replace g2 := (grew_cell gw (p := ⟨b, o + i * 5 + 2, none⟩) hbw).trans g2
      replace g3 := (grew_cell gw (p := ⟨b, o + i * 5 + 3, none⟩) hbw).trans g3
      replace g4 := (grew_cell gw (p := ⟨b, o + i * 5 + 4, none⟩) hbw).trans g4
      have HIN := Lib.hid hin
      have HW := Lib.hid gw
      clear hat hin gw
      generalize xs.getD i default = x at *
      go_upto_region 12 with fail
      have CF := Lib.hid (fun w (g : Grew W w) => few_any X1 y1 z1 x.safe w (HIN.out.b1.keep g))
      have CF2 := Lib.hid (fun w (g : Grew W w) => few_any X2 y2 z2 x.rest w (HIN.out.b2.keep g))
      have ga := grew_alloc wr #[.slice X0 y0 z0, .slice X1 y1 z1, .slice X2 y2 z2, .int .i64 x.arm, .slice X4 y4 z4] 51
      have hlX := (alloc_range wr [.slice X0 y0 z0, .slice X1 y1 z1, .slice X2 y2 z2, .int .i64 x.arm, .slice X4 y4 z4] 51).1
      have HGA := Lib.hid ga
      have HWA := Lib.hid (grew_trans HW.out ga)
      obtain ⟨N1, hN1⟩ : ∃ N1, N1 = WithNew N wr (wr.alloc (.cells #[.slice X0 y0 z0, .slice X1 y1 z1, .slice X2 y2 z2, .int .i64 x.arm, .slice X4 y4 z4] 51)) := ⟨_, rfl⟩
      have HNX : Hid (N1 wr.heap.size) := by rw [hN1]; exact Or.inr ⟨Nat.le_refl _, by simp⟩
      have HNN : Hid (∀ k, Mine N1 W k → Mine N W k) := by rw [hN1]; exact mine_new
      have D1 : Hid (DI N1 W (wr.alloc (.cells #[.slice X0 y0 z0, .slice X1 y1 z1, .slice X2 y2 z2, .int .i64 x.arm, .slice X4 y4 z4] 51)) q s) := HI.out.di.besides ga (fun k hk => by rw [hN1] at hk; exact hk)
      clear hN1
      generalize wr.alloc (.cells #[.slice X0 y0 z0, .slice X1 y1 z1, .slice X2 y2 z2, .int .i64 x.arm, .slice X4 y4 z4] 51) = wA at *
      obtain ⟨X, hX⟩ : ∃ X, X = wr.heap.size := ⟨_, rfl⟩
      have hXlt : X < wA.heap.size := by rw [hX]; have h := hlX 0 _ rfl; exact World.block_lt_of_cell? _ _ h
      rw [← hX] at hlX HNX ⊢
      have HX : Hid (Stab (Mine N1 W) wA (fun w => w.rangeAt X 0 [.slice X0 y0 z0, .slice X1 y1 z1, .slice X2 y2 z2, .int .i64 x.arm, .slice X4 y4 z4])) := fun w' g => rangeAt_of hlX (g.block X hXlt (fun hm => hm.2 HNX.out))
      have HXL := Lib.hid hXlt
      obtain ⟨e0, e1, e2, e3, e4⟩ := range5x hlX
      clear hX ga hlX hXlt g0 g1 g2 g3 g4 hbw
      by_cases h1 : 300 < y0
      · have d1 : (300 : Int) < (y0 : Int) := by omega
        -- <done
        go_wp2_with fail
        go_ret
        exact ⟨rfl, HWA.out⟩
        -- done>
      have d1 : ¬ (300 : Int) < (y0 : Int) := by omega
      cases hf : fewB x.safe with
      | false =>
        -- <done
        rw [hf] at CF
        go_wp2_with (first | (go_at_call 22; ((with_reducible refine (CF.out _ HWA.out).mono ?_); rintro e wb ⟨rfl, hg⟩; have G1 := Lib.hid (grew_trans HWA.out hg); clear hg)))
        go_ret
        exact ⟨rfl, G1.out⟩
        -- done>
      | true =>
      rw [hf] at CF
      cases hf2 : fewB x.rest with
      | false =>
        -- <done
        rw [hf2] at CF2
        go_wp2_with (first
          | (go_at_call 22; ((with_reducible refine (CF.out _ HWA.out).mono ?_); rintro e wb ⟨rfl, hg⟩; have G1 := Lib.hid (grew_trans HWA.out hg); have e2b := (grew_cell hg (p := ⟨X, 2, none⟩) HXL.out).trans e2; clear hg))
          | (go_at_call 22; ((with_reducible refine (CF2.out _ G1.out).mono ?_); rintro e wc ⟨rfl, hg⟩; have G2 := Lib.hid (grew_trans G1.out hg); clear hg)))
        go_ret
        exact ⟨rfl, G2.out⟩
        -- done>
      | true =>
      rw [hf2] at CF2
      have hfs : x.safe.length ≤ 20 ∧ ∀ l ∈ x.safe, l.length ≤ 300 := of_decide_eq_true hf
      have hfr : x.rest.length ≤ 20 ∧ ∀ l ∈ x.rest, l.length ≤ 300 := of_decide_eq_true hf2
      have HFS := Lib.hid hfs
      have HFR := Lib.hid hfr
      clear hf hf2 hfs hfr
      by_cases h4 : 2000 < y4
      · have d4 : (2000 : Int) < (y4 : Int) := by omega
        -- <done
        go_wp2_with (first
          | (go_at_call 22; ((with_reducible refine (CF.out _ HWA.out).mono ?_); rintro e wb ⟨rfl, hg⟩; have G1 := Lib.hid (grew_trans HWA.out hg); have e2b := (grew_cell hg (p := ⟨X, 2, none⟩) HXL.out).trans e2; have e4b := Lib.hid ((grew_cell hg (p := ⟨X, 4, none⟩) HXL.out).trans e4); have HXb := Lib.hid (Nat.lt_of_lt_of_le HXL.out hg.size); clear hg))
          | (go_at_call 22; ((with_reducible refine (CF2.out _ G1.out).mono ?_); rintro e wc ⟨rfl, hg⟩; have G2 := Lib.hid (grew_trans G1.out hg); have e4c := (grew_cell hg (p := ⟨X, 4, none⟩) HXb.out).trans e4b.out; clear hg)))
        go_ret
        exact ⟨rfl, G2.out⟩
        -- done>
      have d4 : ¬ (2000 : Int) < (y4 : Int) := by omega
      obtain ⟨r, s1, l1, hbe, hbo⟩ := begO HI.out.bl (by omega) x.arm x.snap (by have := HIN.out.b0.1; omega)
      have HBO := Lib.hid hbo
      have HBE := Lib.hid hbe
      have hls : (lPick s).snap.length ≤ 65536 := (lPick_ok s).snapS
      have HLS := Lib.hid hls
      have CO := Lib.hid (fun w (g : Grew wA w) => (D1.out.grows g).openJ HI.out.opens)
      have CFD := Lib.hid (fun w lb (g : Grew wA w) (hj : JI N1 W w lb q s (lPick s)) => HI.out.found (grew_trans HGA.out g) hj c5 c6)
      have CSN := Lib.hid (fun w lb (hj : JI N1 W w lb q s (lPick s)) => hj.snap)
      have CRC := Lib.hid (fun w lb (hj : JI N1 W w lb q s (lPick s)) => hj.recs)
      have CTW := Lib.hid (fun (A : Option Addr) (n c : Nat) (l : List UInt8) w hb hA hn => twinB_any A n c l w hb hA hn)
      have hr3 := HIN.out.r3
      clear hbo hbe hls
      generalize hlp : lPick s = lp at *
      have HLP := Lib.hid hlp
      clear hlp
      go_upto_region 18 with (first
        | (go_at_call 22; ((with_reducible refine (CF.out _ HWA.out).mono ?_); rintro e wb ⟨rfl, hg⟩; have G1 := Lib.hid (grew_trans HWA.out hg); have K1 := Lib.hid hg; have e2b := (grew_cell hg (p := ⟨X, 2, none⟩) HXL.out).trans e2; have e4b := Lib.hid ((grew_cell hg (p := ⟨X, 4, none⟩) HXL.out).trans e4); have HXb := Lib.hid (Nat.lt_of_lt_of_le HXL.out hg.size); clear hg))
        | (go_at_call 22; ((with_reducible refine (CF2.out _ G1.out).mono ?_); rintro e wc ⟨rfl, hg⟩; have K2 := Lib.hid (grew_trans K1.out hg); have e4c := (grew_cell hg (p := ⟨X, 4, none⟩) HXb.out).trans e4b.out; clear hg))
        | (go_at_call 23; ((with_reducible refine (CO.out _ K2.out).mono ?_); rintro e w2 ⟨hg, lb, rfl, hj⟩; have J2 := Lib.hid hj; have K3 := Lib.hid (grew_trans K2.out hg); clear hg hj))
        | (go_at_call 24; ((with_reducible refine (CFD.out _ _ K3.out J2.out).mono ?_); rintro e w3 ⟨rfl, hg⟩; have J3 := Lib.hid (J2.out.grows hg); have K4 := Lib.hid (grew_trans K3.out hg); clear hg))
        | (go_at_call 26; ((with_reducible refine (CSN.out _ _ J3.out).mono ?_); rintro e w4 ⟨hg, B4, b4, rfl, _, hb4, hB4, _⟩; have J4 := Lib.hid (J3.out.grows hg); have K5 := Lib.hid hg; have CT4 := Lib.hid (CTW.out B4 lp.snap.length b4 lp.snap w4 hb4 hB4 (by have := HLS.out; omega)); clear hg hb4 hB4))
        | (go_at_call 25; ((with_reducible refine CT4.out.mono ?_); rintro e w5 ht5; have HT5 := Lib.hid ht5; obtain ⟨hg, B5, b5, rfl, _⟩ := ht5; have J5 := Lib.hid (J4.out.grows hg); have K6 := Lib.hid (grew_trans K5.out hg); clear hg))
        | (go_at_call 27; ((with_reducible refine (CRC.out _ _ J5.out).mono ?_); rintro e w6 ⟨hg, v6, rfl, hv6⟩; have J6 := Lib.hid (J5.out.grows hg); have K7 := Lib.hid hg; have HV6 := Lib.hid hv6; clear hg hv6 J5))
        | (go_at_call 27; ((with_reducible refine (CRC.out _ _ J6.out).mono ?_); rintro e w7 ⟨hg, v7, rfl, hv7⟩; have J7 := Lib.hid (J6.out.grows hg); have K8 := Lib.hid hg; have HV7 := Lib.hid hv7; clear hg hv7)))
      obtain ⟨N2, hN2⟩ : ∃ N2, N2 = WithNew N1 w3 w7 := ⟨_, rfl⟩
      have z34 := K5.out.size
      have z35 := K6.out.size
      have z56 := K7.out.size
      have z67 := K8.out.size
      have G37 := grew_trans K6.out (grew_trans K7.out K8.out)
      have hm2 : ∀ k, w4.heap.size ≤ k → k < w7.heap.size → ¬ Mine N2 W k := fun k h1 h2 hm => hm.2 (by rw [hN2]; exact Or.inr ⟨by omega, h2⟩)
      have HM2 : Hid (∀ k, Mine N2 W k → Mine N1 W k) := by rw [hN2]; exact mine_new
      have J8 : Hid (JI N2 W w7 lb q s lp) := by rw [hN2]; exact J3.out.withNew G37
      obtain ⟨_, _, _, e5, hs5, _, _⟩ := TwinB.stab (M := Mine N2 W) HT5.out (fun k h1 h2 => hm2 k h1 (by omega))
      cases e5
      obtain ⟨A6', c6', rfl, hs6, _, _⟩ := RowsO.toS (M := Mine N2 W) HV6.out (fun k h1 h2 => hm2 k (by have := HT5.out.1.size; omega) (by omega))
      obtain ⟨A7', c7', rfl, hs7, _, hc7'⟩ := RowsO.toS (M := Mine N2 W) HV7.out (fun k h1 h2 => hm2 k (by have := HT5.out.1.size; omega) h2)
      have MEM : Hid (Stab (Mine N2 W) w7 (fun w => Bys w B5 lp.snap.length lp.snap ∧ RowsB w A6' lp.recs.length lp.recs ∧ RowsB w A7' lp.recs.length lp.recs)) :=
        (hs5.chg (grew_trans K7.out K8.out).chg).and ((hs6.stab.chg K8.out.chg).and hs7.stab)
      have HN2X : Hid (N2 X) := by rw [hN2]; exact Or.inl HNX.out
      have HX2 : Hid (Stab (Mine N2 W) w7 (fun w => w.rangeAt X 0 [.slice X0 y0 z0, .slice X1 y1 z1, .slice X2 y2 z2, .int .i64 x.arm, .slice X4 y4 z4])) := (HX.out.chg (grew_trans K4.out G37).chg).mono HM2.out
      clear hN2 z34 z35 z56 z67 G37 hm2 hs5 hs6 hs7 K1 K2 K3 K4 K5 K6 K7 K8 HT5 HV6 HV7 J2 J3 J4 J6 J7 CT4 CF CF2 CO CFD CSN CRC CTW e2b e4b e4c HXb G1 D1 HNN HNX HX HXL e0 e1 e2 e3 e4 HGA HWA
      have hoff : (dArm s x.arm).off = false := by rw [(dArm_same s x.arm).2.2, HI.out.bl.on]
      have hopn0 : (dArm s x.arm).opn.length = 0 := by rw [(dArm_same s x.arm).2.1, HI.out.bl.opn]; rfl
      have CAR := Lib.hid (J8.out.arm x.arm hr3.2)
      have CBG : Hid (∀ w, JI N2 W w lb q (dArm s x.arm) lp → Calls Try.prog 29 #[.pointer (some ⟨lb, 0, none⟩), .slice X0 y0 z0] w (JStep N2 W w lb q (.int .i64 r) s1 l1)) := fun w h => by
        have h5 := h.begin x.snap X0 y0 z0 (HIN.out.b0.keep h.grew) HIN.out.a0 HIN.out.m0 (fun a ha h0 => Or.inl (HIN.out.b0.old a ha h0)) (by omega) (by omega)
        rw [HBE.out] at h5
        exact h5
      have x3 := (range5x HX2.out.now).2.2.2.1
      have HOF := Lib.hid hoff
      clear hoff hopn0 HBE hr3
      go_upto_region 20 with (first
        | (go_at_call 28; ((with_reducible refine CAR.out.mono ?_); rintro e w8 ⟨rfl, hd, hc, hj⟩; have J9 := Lib.hid (hj HOF.out); have HX3 := Lib.hid (HX2.out.chg hc); have MEM3 := Lib.hid (MEM.out.chg hc); have x0 := (range5x HX3.out.now).1; clear hd hc hj))
        | (go_at_call 29; ((with_reducible refine (CBG.out _ J9.out).mono ?_); rintro e w9 ⟨rfl, hd, hc, hj⟩; have D10 := Lib.hid hd; have J10 := Lib.hid hj; have HX4 := Lib.hid (HX3.out.chg hc); have MEM4 := Lib.hid (MEM3.out.chg hc); clear hd hc hj)))
      clear J8 J9 HX2 HX3 MEM MEM3 CAR CBG x3 x0
      rcases HBO.out with hA | hB
      · -- <done
        obtain ⟨rfl, a, g, rfl, q1, q2, L1, q3, q4⟩ := hA
        have J11 := Lib.hid (J10.out q1)
        have LA0 : Hid (LA s1 a g x.snap x.safe 0 0) := ⟨by rw [List.take_zero]; exact L1, q3, Or.inl ⟨rfl, q1, by rw [q2]; rfl⟩⟩
        have x0 := (range5x HX4.out.now).1
        have hsl : x.safe.length = y1 := HIN.out.b1.1
        have HSL := Lib.hid hsl
        have hy1 : y1 ≤ 20 := by have := HFS.out.1; omega
        have HG4 := Lib.hid q4
        have hq1 := Lib.hid q1
        clear HBO J10 MEM4 hc7' L1 D10 q1 q2 q3 q4 hsl
        have CC := Lib.hid (fun N w s (h : DI N W w q s) (hop : s.opn.length ≤ 1000000) => h.crash X4 y4 z4 x.picks (HIN.out.i4.keep h.grew) (fun a ha h0 => Or.inl (ints_old HIN.out.i4 a ha h0)) HIN.out.k4 hop)
        have CT := Lib.hid (fun N w s (h : DI N W w q (dCrash s x.picks)) => h.start (by show ([] : List (Nat × Blk)).length ≤ _; simp))
        go_upto_region 23 with fail
        go_loopw [7, 11, 12] (fun v7 v11 v12 wx => ∃ (k : Nat) (e : Int) (sk : DS) (N : Nat → Prop) (A7 : Option Addr) (c7 : Nat), v12 = .int .i64 k ∧ v11 = .int .i64 e ∧ v7 = .slice A7 k c7 ∧ k ≤ y1 ∧ Hid (LA sk a g x.snap x.safe k e) ∧ Hid (DI N W wx q sk) ∧ Hid (sk.off = false → JI N W wx lb q sk (lgL a g x.snap (x.safe.take k) true)) ∧
          Hid (XK N wx X [.slice X0 y0 z0, .slice X1 y1 z1, .slice X2 y2 z2, .int .i64 x.arm, .slice X4 y4 z4] A7 k c7) ∧ Hid (AllK N W wx A7 k c7 (x.safe.take k))) (fun _ _ v12 _ => y1 - (intOf v12).toNat)
        case atStart => exact ⟨0, 0, s1, N2, none, 0, rfl, rfl, rfl, Nat.zero_le _, LA0, J11.out.di, fun _ => J11.out, ⟨HX4.out.now, HN2X.out, World.block_lt_of_cell? _ _ x0, fun _ hk => by cases hk⟩, AllK.nil _ _ _⟩
        case round =>
          obtain ⟨k, e, sk, N3, A7, c7, rfl, rfl, rfl, hk, HLA, HD, HJ, HX5, HAL⟩ := hrel
          clear J11 LA0 HX4 x0
          have x1 := (range5x HX5.out.rng).2.1
          by_cases hgo : k < y1 ∧ e = 0
          · obtain ⟨hky, rfl⟩ := hgo
            --
            have a5 : (k : Int) < (y1 : Int) := by omega
            have hon : sk.off = false := by
              rcases HLA.out.ok with h | h
              · exact h.2.1
              · exact absurd h.1 (by decide)
            have HJ3 := Lib.hid (HJ.out hon)
            obtain ⟨b1, o1, rfl, hb1w, hcs1⟩ := HIN.out.b1.2 (by omega)
            obtain ⟨A1, m1, p1, hc1, hb1, hA1, hn1, hm1⟩ := hcs1 k hky
            have HC1 : Hid (∀ w', Grew W w' → w'.cell? ⟨b1, o1 + k, none⟩ = some (.slice A1 m1 p1)) := fun w' g => (grew_cell g (p := ⟨b1, o1 + k, none⟩) hb1w).trans hc1
            have g1 := HC1.out wr HD.out.grew
            have HB1 := Lib.hid hb1
            obtain ⟨e', s', l', hE, hLA2, hl2⟩ := la_step HLA.out (by rw [HSL.out]; exact hky) (by have := HIN.out.b0.1; omega) HFS.out.1 HFS.out.2
            have HLA2 := Lib.hid hLA2
            have HL2 := Lib.hid hl2
            have HE2 := Lib.hid hE
            have HTK := Lib.hid (take_snocR x.safe k (by rw [HSL.out]; exact hky))
            have hop : sk.opn.length ≤ 500000 := by have := HLA.out.lg.opnLen; omega
            have HOP := Lib.hid hop
            obtain ⟨hall, xs7, ho7, hn7, he7⟩ := HAL.out
            clear hc1 hcs1 hb1 hE hLA2 hl2 hop hon HJ HLA
            generalize x.safe.getD k [] = pk at *
            obtain ⟨iS, hiS, hzS, hsS, hbS⟩ := info_parts infoSl
            have hxo := ownR_grew ho7 (grew_alloc wr #[.slice A1 m1 p1] 37)
            have hnews : ∀ (j : Nat) (u : Value), ([.slice A1 m1 p1] : List Value)[j]? = some u → (wr.alloc (.cells #[.slice A1 m1 p1] 37)).cell? ((⟨wr.heap.size, 0, none⟩ : Addr).add j) = some u := fun j u hu => by
              match j, hu with
              | 0, hu =>
                simp at hu
                subst hu
                rw [addr_add]; simp
            have hone1 : ∀ u ∈ ([.slice A1 m1 p1] : List Value), u.oneCell' = true := fun u hu => by rw [List.mem_singleton] at hu; rw [hu]; rfl
            have hbs : W.heap.size ≤ (wr.alloc (.cells #[.slice A1 m1 p1] 37)).heap.size := (grew_trans HD.out.grew (grew_alloc wr #[.slice A1 m1 p1] 37)).size
            have HXO := Lib.hid hxo
            have HNW := Lib.hid hnews
            have HBS := Lib.hid hbs
            have HO7 := Lib.hid ho7
            have HN7 := Lib.hid hn7
            have HE7 := Lib.hid he7
            clear hxo hnews hbs ho7 hn7 he7
            go_upto_region 26 with (first
              | (at_builtin; refine (wpList_append_lies _ rfl _ _ 38 rfl W.heap.size 37 iS (.slice none 0 0) 1 24 Try.underlying38 hiS hzS hsS hbS rfl (by decide) (.slice A7 k c7) k xs7 rfl HXO.out ⟨wr.heap.size, 0, none⟩ 1 1 [.slice A1 m1 p1] rfl rfl HNW.out hone1 (by decide) (by unfold maxLen; omega) (by omega) HBS.out _ rfl ?_); intro g7 cap7 w10 ho10 hg10 hat10 hlt10; have HAP := Lib.hid (AllK.app (N := N3) (W := W) (w := wr) hall HO7.out HN7.out HE7.out (grew_alloc wr #[.slice A1 m1 p1] 37) HB1.out hA1 hn1 hm1 ho10 hg10 hat10 hlt10); have HXP := Lib.hid (HX5.out.app (N' := WithNew N3 wr w10) (m := k + 1) (cap := cap7) (grew_alloc wr #[.slice A1 m1 p1] 37) hg10 hat10 (fun _ h => Or.inl h)); clear ho10 hg10 hat10 hlt10))
            obtain ⟨N4, hN4⟩ : ∃ N4, N4 = WithNew N3 wr w10 := ⟨_, rfl⟩
            have J4 : Hid (JI N4 W w10 lb q sk (lgL a g x.snap (x.safe.take k) true)) := by rw [hN4]; exact HJ3.out.keepNew HAP.out.1
            have AL4 : Hid (AllK N4 W w10 (some ⟨g7, 0, none⟩) (k + 1) cap7 (x.safe.take k ++ [pk])) := by rw [hN4]; exact HAP.out.2
            rw [← hN4] at HXP
            rw [← HTK.out] at AL4
            clear hN4 HAP HX5 HAL HO7 HN7 HE7 HXO HNW HBS HJ3 HD g1 x1
            have x1 := (range5x HXP.out.rng).2.1
            have g1 := HC1.out w10 J4.out.grew
            have ga10 := Lib.hid (grew_alloc w10 #[.slice A1 m1 p1] 37)
            obtain ⟨N5, hN5⟩ : ∃ N5, N5 = WithNew N4 w10 (w10.alloc (.cells #[.slice A1 m1 p1] 37)) := ⟨_, rfl⟩
            have HN5 : Hid (∀ i, N4 i → N5 i) := fun i hi => by rw [hN5]; exact Or.inl hi
            have CA : Hid (Calls Try.prog 30 #[.pointer (some ⟨lb, 0, none⟩), .slice (some ⟨w10.heap.size, 0, none⟩) 1 1] (w10.alloc (.cells #[.slice A1 m1 p1] 37)) (JStep N5 W (w10.alloc (.cells #[.slice A1 m1 p1] 37)) lb q (.int .i64 e') s' l')) := by
              rw [hN5]
              have h5 := (J4.out.withNew ga10.out).append [pk] (some ⟨w10.heap.size, 0, none⟩) 1 1 (rows1S 37 (HB1.out.keep J4.out.grew) hA1 hn1 hm1 (fun a ha h0 hm => by have := HB1.out.old a ha h0; have := hm.1; omega) (fun hm => hm.2 (Or.inr ⟨Nat.le_refl _, by simp⟩))) (by omega) HOP.out
              rw [HE2.out] at h5
              exact h5
            have AL5 := Lib.hid (AL4.out.chg (N' := N5) ga10.out.chg HN5.out)
            have XK5 := Lib.hid (HXP.out.chg (W := W) (N' := N5) ga10.out.chg HN5.out)
            clear hN5
            go_wp2_with (first
              | (go_at_call 30; ((with_reducible refine CA.out.mono ?_); rintro e w12 ⟨rfl, hd, hc, hj⟩; have D6 := Lib.hid hd; have J6 := Lib.hid hj; have AL6 := Lib.hid (AL5.out.chg hc (fun _ h => h)); have XK6 := Lib.hid (XK5.out.chg hc (fun _ h => h)); clear hd hc hj)))
            have J7 : Hid (s'.off = false → JI N5 W w12 lb q s' (lgL a g x.snap (x.safe.take (k + 1)) true)) := fun hof => by
              have he0 : e' = 0 := by
                rcases HLA2.out.ok with h | h
                · exact h.1
                · rw [h.2] at hof; cases hof
              have := J6.out hof
              rw [HL2.out he0] at this
              exact this
            go_roundw
            case rel => exact ⟨k + 1, e', s', N5, some ⟨g7, 0, none⟩, cap7, by go_num, rfl, by go_num, by omega, HLA2, D6, J7, XK6, AL6⟩
            case measure => simp only [intOf]; omega
            --
          · have MEMK : Hid (Stab (Mine N3 W) wr (fun w => Bys w X0 y0 x.snap ∧ RowsB w none 0 [] ∧ RowsB w A7 k (x.safe.take k))) := (stab_old HD.out.grew mine_old (fun _ g => HIN.out.b0.keep g)).and ((show Stab _ _ _ from fun _ _ => rowsB_nil _).and (HAL.out.rows HD.out.grew).1)
            have HKC := Lib.hid (HAL.out.rows HD.out.grew).2
            by_cases he : e = 0
            · subst he
              obtain rfl : k = y1 := by omega
              have a5 : ¬ (k : Int) < (k : Int) := by omega
              have hkl : k = x.safe.length := HSL.out.symm
              have hts : x.safe.take k = x.safe := List.take_of_length_le (by omega)
              have hLA := HLA.out
              have hLB : LA sk a g x.snap x.safe x.safe.length 0 := by rw [← hkl]; exact hLA
              have hon : sk.off = false := by
                rcases hLA.ok with h | h
                · exact h.2.1
                · exact absurd h.1 (by decide)
              obtain ⟨e', s', hE, hlen', hsy⟩ := la_sync hLB
              have HJ3 := Lib.hid (HJ.out hon)
              rw [hts] at MEMK HAL HJ3
              have hop := hLA.lg.opnLen
              have CY : Hid (Calls Try.prog 31 #[.pointer (some ⟨lb, 0, none⟩)] wr (JStep N3 W wr lb q (.int .i64 e') s' (lgL a g x.snap x.safe true))) := by
                have h5 := HJ3.out.sync (by omega)
                rw [hE] at h5
                exact h5
              have HSY := Lib.hid hsy
              have HLEN := Lib.hid hlen'
              clear hkl hts hLA hLB hon hE hop hsy hlen' HJ HLA
              go_upto_region 29 with (first
                | (go_at_call 31; ((with_reducible refine CY.out.mono ?_); rintro e w12 ⟨rfl, hd, hc, hj⟩; have D6 := Lib.hid hd; have J6 := Lib.hid hj; have AL6 := Lib.hid (HAL.out.chg hc (fun _ h => h)); have XK6 := Lib.hid (HX5.out.chg hc (fun _ h => h)); have M6 := Lib.hid (MEMK.out.chg hc); clear hd hc hj)))
              rcases HSY.out with ⟨rfl, q1, q2, L2⟩ | ⟨rfl, q1, L2⟩
              · have J7 := Lib.hid (J6.out q1)
                have HRS := Lib.hid (la_rest L2 q1 q2 HLEN.out HFR.out.2)
                have HLG := Lib.hid L2
                clear HSY L2 q1 q2 MEMK M6 HAL HX5 HD CY HJ3 J6
                go_upto_region 31 with fail
                obtain ⟨e2, s2, l2, r2, hE2, hlen2, hlg2, hr2⟩ := HRS.out
                have HLG2 := Lib.hid hlg2
                have HLEN2 := Lib.hid hlen2
                have HR2 := Lib.hid hr2
                obtain ⟨vs7, hv7, hd7⟩ := AL6.out.src
                obtain ⟨vs2, hv2, hd2⟩ := srcR_rows HIN.out.b2 hc2n
                have hgB : Grew w12 (w12.alloc (.cells #[] 37)).drew := grew_trans (grew_alloc w12 #[] 37) (grew_drew (grew_refl _))
                have hrl : x.rest.length = y2 := HIN.out.b2.1
                have hy2 : y2 ≤ 20 := by have := HFR.out.1; omega
                have hsl2 : x.safe.length = k := HSL.out
                have hx2 := (range5x XK6.out.rng).2.2.1
                have hX2 := XK6.out.lt
                have x2B := (grew_cell hgB (p := ⟨X, 2, none⟩) hX2).trans hx2
                have HX2C : Hid (∀ w', Grew w12 w' → w'.cell? ⟨X, 2, none⟩ = some (.slice X2 y2 z2)) := fun w' g => (grew_cell g (p := ⟨X, 2, none⟩) hX2).trans hx2
                have HGB := Lib.hid hgB
                have HV7 := Lib.hid (hv7.keep hgB)
                have HV2 := Lib.hid (fun w' (g : Grew w12 w') => hv2.keep (grew_trans J7.out.grew g))
                have HOB := Lib.hid (own_emptyR w12)
                have HLD := Lib.hid (hd7.app hd2)
                have hW12 := J7.out.grew.size
                clear hv7 hd7 hv2 hd2 hgB hX2 HRS hlg2 hlen2 hr2
                go_region_law (first
                  | (refine step_append_rows (by rfl) _ _ (by rfl) w12.heap.size (.slice (some ⟨w12.heap.size, 0, none⟩) 0 0) 0 [] (by rfl) HOB.out A7 k c7 vs7 (by rfl) HV7.out (by omega) HGB.out.size ?_; intro v13 w13 ho13 hb13; rw [Nat.zero_add, List.nil_append] at ho13; obtain ⟨A13, c13, rfl⟩ := own_form ho13; have G13 := Lib.hid (HGB.out.trans hb13); have HO13 := Lib.hid ho13; have x2C := HX2C.out _ G13.out; clear ho13 hb13)
                  | (refine step_append_rows (by rfl) _ _ (by rfl) w12.heap.size (.slice A13 k c13) k vs7 (by rfl) HO13.out X2 y2 z2 vs2 (by rfl) (HV2.out _ G13.out) (by omega) G13.out.size ?_; intro v14 w14 ho14 hb14; obtain ⟨A14, c14, rfl⟩ := own_form ho14; have G14 := Lib.hid (G13.out.trans hb14); have HO14 := Lib.hid ho14; clear ho14 hb14))
                all_goals (
                  obtain ⟨N5, hN5⟩ : ∃ N5, N5 = WithNew N3 w12 w14 := ⟨_, rfl⟩
                  have HN5 : Hid (∀ i, N3 i → N5 i) := fun i hi => by rw [hN5]; exact Or.inl hi
                  have J8 : Hid (JI N5 W w14 lb q s' (lgL a g x.snap x.safe true)) := by rw [hN5]; exact J7.out.withNew G14.out
                  obtain ⟨_, _, eA, hal, _⟩ := allK_of (N := N5) (W := W) (ls := x.safe ++ x.rest) HO14.out (by rw [List.length_append, hsl2, hrl]) hW12 (fun i h1 h2 => by rw [hN5]; exact Or.inr ⟨h1, h2⟩) HLD.out
                  cases eA
                  have XK8 := Lib.hid (XK6.out.chg (W := W) (N' := N5) (Grew.chg G14.out) HN5.out)
                  have HKC2 := Lib.hid (hal.rows J8.out.grew).2
                  have M14 : Hid (Stab (Mine N5 W) w14 (fun w => Bys w X0 y0 x.snap ∧ RowsB w A7 k x.safe ∧ RowsB w A14 (k + y2) (x.safe ++ x.rest))) :=
                    (stab_old J8.out.grew mine_old (fun _ g => HIN.out.b0.keep g)).and ((((AL6.out.rows (W := W) J7.out.grew).1.chg (Grew.chg G14.out)).mono (fun _ hm => ⟨hm.1, fun hn => hm.2 (HN5.out _ hn)⟩)).and (hal.rows J8.out.grew).1)
                  have CA2 : Hid (Calls Try.prog 30 #[.pointer (some ⟨lb, 0, none⟩), .slice X2 y2 z2] w14 (JStep N5 W w14 lb q (.int .i64 e2) s2 l2)) := by
                    have h5 := J8.out.append x.rest X2 y2 z2 (HIN.out.b2.stays J8.out.grew) (by omega) (by have := HLG.out.opnLen; omega)
                    rw [hE2] at h5
                    exact h5
                  have HALL : Hid (∃ more, x.safe ++ x.rest = x.safe ++ r2 ++ more) := by
                    rcases HR2.out with h | h
                    · exact ⟨[], by rw [h, List.append_nil]⟩
                    · exact ⟨x.rest, by rw [h, List.append_nil]⟩
                  have x2D := (range5x XK8.out.rng).2.2.1
                  clear hrl hsl2 hW12 hN5 hal HO13 HO14 HV7 HV2 HOB HLD HGB hx2 x2B HX2C AL6 XK6 J7 G13 G14 x2C HR2 hE2 HLG D6
                  go_upto_region 44 with (first
                    | (go_at_call 30; ((with_reducible refine CA2.out.mono ?_); rintro e w15 ⟨rfl, hd, hc, hj⟩; have D15 := Lib.hid hd; have XK15 := Lib.hid (XK8.out.chg hc (fun _ h => h)); have M15 := Lib.hid (M14.out.chg hc); clear hd hc hj)))
                  have x4 := (range5x XK15.out.rng).2.2.2.2
                  have hop := HLG2.out.opnLen
                  have C1 := Lib.hid (CC.out N5 w15 s2 D15.out (by omega))
                  go_wp2_with (first
                    | (go_at_call 16; ((with_reducible refine C1.out.mono ?_); rintro e w20 ⟨rfl, hd, hc⟩; have D20 := Lib.hid hd; have M20 := Lib.hid (M15.out.chg hc); clear hd hc))
                    | (go_at_call 18; ((with_reducible refine (CT.out _ _ _ D20.out).mono ?_); rintro e w21 ⟨rfl, hd, hc⟩; have D21 := Lib.hid hd; have M21 := Lib.hid (M20.out.chg hc); clear hd hc)))
                  have HIE := Lib.hid (li_end (i := i) D21.out HLG2.out HLEN2.out HG4.out (x.safe ++ x.rest) HALL.out M21.out (by omega) HKC2.out)
                  go_roundw
                  case rel => exact ⟨i + 1, dAfter s2 x.picks, N5, x.snap, x.safe, (x.safe ++ x.rest), X0, A7, A14, y0, k, (k + y2), z0, c7, _, by go_num, rfl, rfl, rfl, by omega, HIE⟩
                  case measure => simp only [intOf]; omega)
              · --
                have HLG := Lib.hid L2
                have x4 := (range5x XK6.out.rng).2.2.2.2
                have hop := HLG.out.opnLen
                have C1 := Lib.hid (CC.out N3 w12 s' D6.out (by omega))
                go_wp2_with (first
                  | (go_at_call 16; ((with_reducible refine C1.out.mono ?_); rintro e w20 ⟨rfl, hd, hc⟩; have D20 := Lib.hid hd; have M20 := Lib.hid (M6.out.chg hc); clear hd hc))
                  | (go_at_call 18; ((with_reducible refine (CT.out _ _ _ D20.out).mono ?_); rintro e w21 ⟨rfl, hd, hc⟩; have D21 := Lib.hid hd; have M21 := Lib.hid (M20.out.chg hc); clear hd hc)))
                have HIE := Lib.hid (li_end (i := i) D21.out HLG.out HLEN.out HG4.out x.safe ⟨[], by simp⟩ M21.out (by omega) HKC.out)
                go_roundw
                case rel => exact ⟨i + 1, dAfter s' x.picks, N3, x.snap, [], x.safe, X0, none, A7, y0, 0, k, z0, 0, _, by go_num, rfl, rfl, rfl, by omega, HIE⟩
                case measure => simp only [intOf]; omega
                --
            · have he7 : e = 7 := by
                rcases HLA.out.ok with h | h
                · exact absurd h.1 he
                · exact h.1
              --
              subst he7
              clear he hgo
              by_cases hky : k < y1
              · have a5 : (k : Int) < (y1 : Int) := by omega
                have x4 := (range5x HX5.out.rng).2.2.2.2
                have hop := HLA.out.lg.opnLen
                have C1 := Lib.hid (CC.out N3 wr sk HD.out (by omega))
                go_wp2_with (first
                  | (go_at_call 16; ((with_reducible refine C1.out.mono ?_); rintro e w20 ⟨rfl, hd, hc⟩; have D20 := Lib.hid hd; have M20 := Lib.hid (MEMK.out.chg hc); clear hd hc))
                  | (go_at_call 18; ((with_reducible refine (CT.out _ _ _ D20.out).mono ?_); rintro e w21 ⟨rfl, hd, hc⟩; have D21 := Lib.hid hd; have M21 := Lib.hid (M20.out.chg hc); clear hd hc)))
                have HIE := Lib.hid (li_end (i := i) D21.out HLA.out.lg HLA.out.len HG4.out (x.safe.take k) ⟨[], by simp⟩ M21.out (by omega) HKC.out)
                go_roundw
                case rel => exact ⟨i + 1, dAfter sk x.picks, N3, x.snap, [], (x.safe.take k), X0, none, A7, y0, 0, k, z0, 0, _, by go_num, rfl, rfl, rfl, by omega, HIE⟩
                case measure => simp only [intOf]; omega
              · have a5 : ¬ (k : Int) < (y1 : Int) := by omega
                have x4 := (range5x HX5.out.rng).2.2.2.2
                have hop := HLA.out.lg.opnLen
                have C1 := Lib.hid (CC.out N3 wr sk HD.out (by omega))
                go_wp2_with (first
                  | (go_at_call 16; ((with_reducible refine C1.out.mono ?_); rintro e w20 ⟨rfl, hd, hc⟩; have D20 := Lib.hid hd; have M20 := Lib.hid (MEMK.out.chg hc); clear hd hc))
                  | (go_at_call 18; ((with_reducible refine (CT.out _ _ _ D20.out).mono ?_); rintro e w21 ⟨rfl, hd, hc⟩; have D21 := Lib.hid hd; have M21 := Lib.hid (M20.out.chg hc); clear hd hc)))
                have HIE := Lib.hid (li_end (i := i) D21.out HLA.out.lg HLA.out.len HG4.out (x.safe.take k) ⟨[], by simp⟩ M21.out (by omega) HKC.out)
                go_roundw
                case rel => exact ⟨i + 1, dAfter sk x.picks, N3, x.snap, [], (x.safe.take k), X0, none, A7, y0, 0, k, z0, 0, _, by go_num, rfl, rfl, rfl, by omega, HIE⟩
                case measure => simp only [intOf]; omega
        -- done>
      · obtain ⟨rfl, q1, q3, q4, hpk⟩ := hB
        have x4 := (range5x HX4.out.now).2.2.2.2
        have C1 := Lib.hid (D10.out.crash X4 y4 z4 x.picks (HIN.out.i4.keep D10.out.grew) (fun a ha h0 => Or.inl (ints_old HIN.out.i4 a ha h0)) HIN.out.k4 (by omega))
        have CT := Lib.hid (fun w (h : DI N2 W w q (dCrash s1 x.picks)) => h.start (by show ([] : List (Nat × Blk)).length ≤ _; simp))
        have CO := Lib.hid (fun w (h : DI N2 W w q (dAfter s1 x.picks)) => h.openJ (lOpen_ok rfl (by rw [dAfter_len, q3]; omega)))
        have CFD := Lib.hid (fun w lb2 l2 (hj : JI N2 W w lb2 q (dAfter s1 x.picks) l2) (m : Bys w B5 lp.snap.length lp.snap ∧ RowsB w A6' lp.recs.length lp.recs ∧ RowsB w A7' lp.recs.length lp.recs) => found_any w hj B5 A6' A7' lp.snap.length lp.recs.length lp.recs.length b5 c6' c7' lp.snap lp.recs lp.recs m.1 m.2.1 m.2.2 (by have := HLS.out; omega) hc7')
        have HLEN := Lib.hid q3
        have hg0 := HI.out.bl.gen
        rw [HLP.out] at hg0
        have HG0 := Lib.hid hg0
        have hpk2 : ∃ l2, lPick (dAfter s1 x.picks) = l2 ∧ l2.gen ≤ i + 1 ∧ (Fnd l2 lp.snap lp.recs lp.recs ∨ l2.snap = x.snap ∧ l2.recs = []) := by
          rcases hpk x.picks with h | ⟨a, g, h, hg⟩
          · rw [HLP.out] at h
            exact ⟨lp, h, by omega, Or.inl (fnd_self lp)⟩
          · exact ⟨_, h, hg, Or.inr ⟨rfl, rfl⟩⟩
        obtain ⟨l2, hl2, hg2, hcs⟩ := hpk2
        rw [hl2] at CO
        have HL2 := Lib.hid hl2
        have HCS := Lib.hid hcs
        clear hpk hl2 hcs hg0 q1 q3 q4 HBO J10
        go_upto_region 39 with (first
          | (go_at_call 16; ((with_reducible refine C1.out.mono ?_); rintro e w20 ⟨rfl, hd, hc⟩; have D20 := Lib.hid hd; have M20 := Lib.hid (MEM4.out.chg hc); have X20 := Lib.hid (HX4.out.chg hc); clear hd hc))
          | (go_at_call 18; ((with_reducible refine (CT.out _ D20.out).mono ?_); rintro e w21 ⟨rfl, hd, hc⟩; have D21 := Lib.hid hd; have M21 := Lib.hid (M20.out.chg hc); have X21 := Lib.hid (X20.out.chg hc); clear hd hc))
          | (go_at_call 23; ((with_reducible refine (CO.out _ D21.out).mono ?_); rintro e w22 ⟨hg, lb2, rfl, hj⟩; have J22 := Lib.hid hj; have M22 := Lib.hid (M21.out.chg hg.chg); have X22 := Lib.hid (X21.out.chg hg.chg); clear hg hj)))
        clear C1 CT CO D10 D20 D21 M20 M21 X20 X21 HX4 MEM4 x4
        have C2 := Lib.hid (CFD.out w22 lb2 l2 J22.out M22.out.now)
        clear CFD
        by_cases hfd : Fnd l2 lp.snap lp.recs lp.recs
        · rw [decide_eq_true hfd] at C2
          -- <done
          have HFD := Lib.hid hfd
          clear hfd HCS
          go_wp2_with (first
            | (go_at_call 24; ((with_reducible refine C2.out.mono ?_); rintro e w23 ⟨rfl, hg⟩; have J23 := Lib.hid (J22.out.grows hg); have M23 := Lib.hid (M22.out.chg hg.chg); clear hg)))
          have HIE : Hid (LI N2 W w23 q (dAfter s1 x.picks) (i + 1) lp.snap lp.recs lp.recs B5 A6' A7' lp.snap.length lp.recs.length lp.recs.length c7') :=
            ⟨J23.out.di, bl_after HLEN.out x.picks (by rw [HL2.out]; exact hg2), by rw [HL2.out]; exact HFD.out, M23.out, by have := HLS.out; omega, hc7'⟩
          go_roundw
          case rel => exact ⟨i + 1, dAfter s1 x.picks, N2, lp.snap, lp.recs, lp.recs, B5, A6', A7', lp.snap.length, lp.recs.length, lp.recs.length, b5, c6', c7', by go_num, rfl, rfl, rfl, by omega, HIE⟩
          case measure => simp only [intOf]; omega
          -- done>
        · rw [decide_eq_false hfd] at C2
          obtain ⟨hs2, hr2⟩ : l2.snap = x.snap ∧ l2.recs = [] := by
            rcases HCS.out with h | h
            · exact absurd h hfd
            · exact h
          have CSN : Hid (∀ w, JI N2 W w lb2 q (dAfter s1 x.picks) l2 → Calls Try.prog 26 #[.pointer (some ⟨lb2, 0, none⟩)] w (TwinBPost x.snap x.snap.length w)) := fun w hj => by
            have h5 := hj.snap
            rw [hs2] at h5
            exact h5
          have CRC : Hid (∀ w, JI N2 W w lb2 q (dAfter s1 x.picks) l2 → Calls Try.prog 27 #[.pointer (some ⟨lb2, 0, none⟩)] w (RecsPost [] w)) := fun w hj => by
            have h5 := hj.recs
            rw [hr2] at h5
            exact h5
          have HFN := Lib.hid (fnd_new l2 x.snap hs2 hr2)
          have CK := Lib.hid (fun (A B : Option Addr) (n m c c2 : Nat) (xs ys : List UInt8) w hx hy hn hm => keepBytes_any A B n m c c2 xs ys w hx hy hn hm)
          clear hfd HCS hs2 hr2
          go_upto_region 40 with (first
            | (go_at_call 24; ((with_reducible refine C2.out.mono ?_); rintro e w23 ⟨rfl, hg⟩; have J23 := Lib.hid (J22.out.grows hg); have X23 := Lib.hid (X22.out.chg hg.chg); clear hg)))
          clear J22 M22 X22 C2
          have x0 := (range5x X23.out.now).1
          have hXl := World.block_lt_of_cell? _ _ x0
          have hxl : x.snap.length = y0 := HIN.out.b0.1
          have HXL := Lib.hid hxl
          clear hxl
          go_region_held3 (fun w' => w'.cell? ⟨X, 0, none⟩ = some (.slice X0 y0 z0))
            (first
              | exact x0
              | exact (grew_cell G32 (p := ⟨X, 0, none⟩) hXl).trans x0
              | exact (grew_cell G31 (p := ⟨X, 0, none⟩) hXl).trans x0
              | exact (grew_cell G30 (p := ⟨X, 0, none⟩) hXl).trans x0)
            (first
              | (go_at_call 26; ((with_reducible refine (CSN.out _ (J23.out.grows (grew_drew (grew_refl _)))).mono ?_); rintro e w30 ⟨G30, A30, c30, rfl, _, hb30, _⟩; have J30 := Lib.hid (J23.out.grows (grew_trans (grew_drew (grew_refl _)) G30)); have CK30 := Lib.hid (CK.out A30 X0 x.snap.length y0 c30 z0 x.snap x.snap w30 hb30 (HIN.out.b0.keep J30.out.grew) (by have := HXL.out; omega) (by omega)); clear hb30; rw [decide_eq_true rfl] at CK30))
              | (go_at_call 32; ((with_reducible refine CK30.out.mono ?_); rintro e w31 ⟨rfl, hg31⟩; have G31 := grew_trans G30 hg31; have J31 := Lib.hid (J30.out.grows hg31); clear hg31))
              | (go_at_call 27; ((with_reducible refine (CRC.out _ J31.out).mono ?_); rintro e w32 ⟨hg32, v32, rfl, hv32⟩; obtain ⟨A32, c32, rfl, -⟩ := hv32.toB; have G32 := grew_trans G31 hg32; have J32 := Lib.hid (J31.out.grows hg32); clear hg32 hv32)))
          have x0c := (grew_cell G32 (p := ⟨X, 0, none⟩) hXl).trans x0
          have HIE : Hid (LI N2 W w32 q (dAfter s1 x.picks) (i + 1) x.snap [] [] X0 none none y0 0 0 0) :=
            ⟨J32.out.di, bl_after HLEN.out x.picks (by rw [HL2.out]; exact hg2), by rw [HL2.out]; exact HFN.out,
              (stab_old J32.out.grew mine_old (fun _ g => HIN.out.b0.keep g)).and ((show Stab _ _ _ from fun _ _ => rowsB_nil _).and (show Stab _ _ _ from fun _ _ => rowsB_nil _)), by omega, by omega⟩
          clear G30 G31 G32 x0 J30 J31 J32 J23 X23 CSN CRC CK
          go_wp2
          go_roundw
          case rel => exact ⟨i + 1, dAfter s1 x.picks, N2, x.snap, [], [], X0, none, none, y0, 0, 0, z0, 0, 0, by go_num, rfl, rfl, rfl, by omega, HIE⟩
          case measure => simp only [intOf]; omega
    · obtain rfl : i = n0 := by omega
      have CO := Lib.hid (HI.out.di.openJ HI.out.opens)
      have CFD := Lib.hid (fun w lb (g : Grew wr w) (hj : JI N W w lb q s (lPick s)) => HI.out.found g hj c5 c6)
      have CW := Lib.hid (fun w => wakes07_any w)
      go_wp2_with (first
        | (go_at_call 23; ((with_reducible refine CO.out.mono ?_); rintro e w22 ⟨hg, lb2, rfl, hj⟩; have J22 := Lib.hid hj; have C2 := Lib.hid (CFD.out _ _ hg hj); clear hg hj))
        | (go_at_call 24; ((with_reducible refine C2.out.mono ?_); rintro e w23 ⟨rfl, hg⟩; have J23 := Lib.hid (J22.out.grows hg); clear hg))
        | (go_at_call 21; ((with_reducible refine (CW.out _).mono ?_); rintro e w24 ⟨rfl, hg⟩; have GE := Lib.hid (grew_trans J23.out.grew hg); clear hg)))
      go_ret
      exact ⟨rfl, GE.out⟩
theorem logLasts_row (A0 : Option Addr) (n0 c0 : Nat) (l0 : List LfV) (W : World) (r0 : Row spLife W A0 n0 l0) : Calls Try.prog 4 #[.slice A0 n0 c0] W fun e w' => e = .returned (.bool true) ∧ Grew W w' := by
  obtain ⟨xs, h⟩ := lives_of_row r0
  exact logLasts_walk A0 n0 c0 xs W h
end Go.Proofs.Ythmdbfbhcnjghaa.NumK
namespace Go.Proofs.Ythmdbfbhcnjghaa.logLasts
open Go.ChangeShapes Go.WideShapes Go.ChangeAt Go.RowKit
set_option linter.unusedVariables false

theorem own : ownKnob Try.prog.godebug = none := by kernel_rfl
theorem laidOut : laidOutB Try.prog = true := by kernel_rfl

set_option maxRecDepth 100000 in
theorem lifted (os : Os) (started : os.Started) (H : Type) (enc : TypeId × Value → H) :
    ReturnsInHanded {} Try.checked os 4 .any (Rows.logLastsSpec.pre6 enc Try.prog Try.f4 Rows.logLastsRow.domain false) (Rows.logLastsSpec.post enc Try.prog Try.f4 false true false false) := by
  refine returnsInHanded_of_change (C := Try.checked) own started (by kernel_rfl) Try.func4
    (ChangeSpec.witness6 (enc := enc) (C := Try.checked) false ⟨#[], #[.slice none 0 0], []⟩ 8 (by kernel_rfl) (by kernel_rfl) (by kernel_rfl) (by kernel_rfl)) ?_
  intro W base args ds gs before hval0 hW hcnd _
  have hval : ∀ (j : Nat) t v, Try.f4.params[j]? = some t → args[j]? = some v → Value.okWide Try.prog W .any base t v := hval0
  have hW' := hW
  obtain ⟨p, q, hA0, hV, rfl, hfz, hnd⟩ := hW
  have hA : DataW.TrodAll enc Try.prog W 0 (fun _ => true) true Try.f4.params.toList args.toList ds p := hA0
  skip
  rw [Try.params4] at hA hval
  obtain ⟨v0, vs0, d0, ds0, p0, q0, hargs, rfl, rfl, h0, r0⟩ := trodAll_cons hA
  obtain ⟨rfl, rfl, rfl⟩ := trodAll_nil r0
  obtain rfl : args = #[v0] := by cases args; simp_all
  obtain ⟨rfl, rfl⟩ := trodVars_none hV
  have k0 := h0
  have lt0 : ∀ x ∈ p0, x.block < W.heap.size := by obtain ⟨m, hm⟩ := k0; exact DataW.trod_lt m _ _ _ hm
  obtain ⟨A0, len0, cap0, l0, rfl, ro0, n0, c0, m0⟩ := NumK.arg_slice Try.underlying49 NumK.opens_lives (hval 0 49 v0 rfl rfl) h0
  clear hA0 hval0
  refine (NumK.logLasts_row A0 len0 cap0 l0 W ro0).mono fun e W' ⟨he, bel⟩ => ?_
  subst he
  exact ⟨_, rfl, _, _, _, [], _, [], hW', trodAll_mk1 (shut_bool Try.underlying4 _), (trodAll_cons_mk (Below.trod laidOut (by kernel_rfl) (of_decide_eq_true (by kernel_rfl)) k0 bel lt0) trodAll_mk0), rfl, bel.frame _, fun h => by cases h⟩

theorem over : Rows.logLastsRow.holds Try.pinned (OpenSpec.ofChange Rows.logLastsSpec) :=
  OpenClaim.holds_of_wide 4 Try.f4 rfl rfl rfl rfl rfl rfl rfl ⟨rfl, rfl, rfl, rfl, rfl⟩ rfl rfl rfl rfl rfl (by kernel_rfl) Try.func4 (by kernel_rfl)
    (of_decide_eq_true (by kernel_rfl)) (by unfold Func.isWrapper; first | (rw [if_pos (by decide +kernel)]; kernel_rfl) | (rw [if_neg (by decide +kernel)]; exact ⟨rfl, rfl⟩))
    (fun os started H enc _ => lifted os started H enc)

/-! ### the statement -/
theorem proved : Rows.LogLastsSaid := over
end Go.Proofs.Ythmdbfbhcnjghaa.logLasts
