/-
  For every snapshot, record and picks: behind a crash that loses, or tears, any of its blocks, the record is there whole, or not at all, and it is there if all its blocks stay (P7.4); inputs beyond the sizes that the statement names it lets by.
-/
import Derived.Test.YthmdbfbhcnjghaaRJnN
import Derived.Test.YthmdbfbhcnjghaaRGrd
import Derived.Test.YthmdbfbhcnjghaaRows
import Derived.WalkKit
import Derived.ProofKit
import Derived.OpenShut
import Derived.ShutString
import Derived.ChangeOld
import Derived.Below
import Derived.Carry
namespace Go.Proofs.Ythmdbfbhcnjghaa.NumK
open Go.RowKit

set_option maxRecDepth 100000 in
set_option maxHeartbeats 1000000 in
theorem logMade_big (A0 A1 A2 : Option Addr) (n0 n1 n2 c0 c1 c2 : Nat) (W : World) (h : 300 < n0 ∨ 2000 < n1 ∨ 2000 < n2) :
    Calls Try.prog 8 #[.slice A0 n0 c0, .slice A1 n1 c1, .slice A2 n2 c2] W fun e w' => e = .returned (.bool true) ∧ Grew W w' := by
  by_cases h0 : 300 < n0
  · have d0 : (300 : Int) < (n0 : Int) := by omega
    clear h
    go_enter Try.func8, Try.ntmps8
    go_wp2
    go_ret
    exact ⟨rfl, grew_refl _⟩
  · have d0 : ¬ (300 : Int) < (n0 : Int) := by omega
    by_cases h1 : 2000 < n1
    · have d1 : (2000 : Int) < (n1 : Int) := by omega
      clear h
      go_enter Try.func8, Try.ntmps8
      go_wp2
      go_ret
      exact ⟨rfl, grew_refl _⟩
    · have d1 : ¬ (2000 : Int) < (n1 : Int) := by omega
      have d2 : (2000 : Int) < (n2 : Int) := by omega
      clear h
      go_enter Try.func8, Try.ntmps8
      go_wp2
      go_ret
      exact ⟨rfl, grew_refl _⟩
theorem pick65 (z : Int) (h1 : -9223372036854775808 ≤ z) (h2 : z ≤ 9223372036854775807) : IntKind.i64.wrap (z.tmod 66) = z.tmod 66 ∧ IntKind.i64.wrap (z.tmod 66 + 66) = z.tmod 66 + 66 ∧ IntKind.i64.wrap ((z.tmod 66 + 66).tmod 66) = (z.tmod 66 + 66).tmod 66 ∧ ((z.tmod 66 + 66).tmod 66 = 65 ↔ z % 66 = 65) := by
  have e1 : -66 < z.tmod 66 ∧ z.tmod 66 < 66 ∧ (z.tmod 66 - z) % 66 = 0 := by
    by_cases h : 0 ≤ z
    · rw [Int.tmod_eq_emod_of_nonneg h]; omega
    · have e : z.tmod 66 = -((-z) % 66) := by rw [← Int.tmod_eq_emod_of_nonneg (by omega), Int.neg_tmod]; omega
      rw [e]; omega
  have e2 : (z.tmod 66 + 66).tmod 66 = (z.tmod 66 + 66) % 66 := Int.tmod_eq_emod_of_nonneg (by omega)
  refine ⟨by rw [IntKind.wrap_i64]; omega, by rw [IntKind.wrap_i64]; omega, by rw [IntKind.wrap_i64]; omega, ?_⟩
  rw [e2]
  omega
theorem stay64 (zs : List Int) (k : Nat) : stay zs k = 64 ↔ zs.getD k 0 % 66 = 65 := by
  unfold stay
  split
  · rename_i h; exact ⟨fun _ => h, fun _ => rfl⟩
  · rename_i h; exact ⟨fun h2 => by omega, fun h2 => absurd h2 h⟩
def allP (zs : List Int) (k : Nat) : Bool := decide (∀ i, i < k → stay zs i = 64)
theorem allP_zero (zs : List Int) : allP zs 0 = true := decide_eq_true (fun i h => absurd h (by omega))
theorem allP_succ (zs : List Int) (k : Nat) : allP zs (k + 1) = (allP zs k && decide (zs.getD k 0 % 66 = 65)) := by
  unfold allP
  rw [← Bool.decide_and]
  apply decide_eq_decide.2
  rw [← stay64]
  constructor
  · exact fun h => ⟨fun i hi => h i (by omega), h k (by omega)⟩
  · rintro ⟨h1, h2⟩ i hi
    by_cases e : i = k
    · subst e; exact h2
    · exact h1 i (by omega)
/-- The model of it: what is found behind the crash. -/
theorem made_found {s : DS} {p rec : List UInt8} (L : LL s 0 1 p [] [rec]) (zs : List Int) : ∃ rs, lPick (dAfter s zs) = lgL 0 1 p rs false ∧ (rs = [] ∨ rs = [rec]) := by
  obtain ⟨j, hj, e⟩ := L.lg.crash zs
  simp only [List.nil_append] at e
  refine ⟨[rec].take j, e, ?_⟩
  have : j = 0 ∨ j = 1 := by simp at hj; omega
  rcases this with rfl | rfl
  · exact Or.inl rfl
  · exact Or.inr rfl
theorem made_all {s : DS} {p rec : List UInt8} (L : LL s 0 1 p [] [rec]) (zs : List Int) {rs : List (List UInt8)} (hd : DOK s) (h : lPick (dAfter s zs) = lgL 0 1 p rs false) (ha : allP zs (nbk (rec.length + 21)) = true) : rs = [rec] := by
  have e := L.lg.crash_all L.all hd.all.1 zs (fun i hi => (of_decide_eq_true ha) i (by simpa [spanL] using hi))
  rw [h] at e
  simp only [lgL, LS.mk.injEq] at e
  exact e.2.2.2.1
set_option maxRecDepth 100000 in
set_option maxHeartbeats 4000000 in
theorem logMade_walk (A0 A1 A2 : Option Addr) (n0 n1 n2 c0 c1 c2 : Nat) (p rec : List UInt8) (zs : List Int) (W : World) (b0 : Bys W A0 n0 p) (a0 : A0 = none → c0 = 0) (m0 : n0 ≤ c0) (b1 : Bys W A1 n1 rec) (a1 : A1 = none → c1 = 0) (m1 : n1 ≤ c1)
    (i2 : Ints W A2 n2 zs) (hz : ∀ z ∈ zs, -9223372036854775808 ≤ z ∧ z ≤ 9223372036854775807) (m2 : n2 ≤ 9223372036854775807) :
    Calls Try.prog 8 #[.slice A0 n0 c0, .slice A1 n1 c1, .slice A2 n2 c2] W fun e w' => e = .returned (.bool true) ∧ Grew W w' := by
  by_cases hbig : 300 < n0 ∨ 2000 < n1 ∨ 2000 < n2
  · exact logMade_big A0 A1 A2 n0 n1 n2 c0 c1 c2 W hbig
  · have hp : p.length = n0 := b0.1
    have hrec : rec.length = n1 := b1.1
    obtain ⟨s1, e1, L1, o1, k1⟩ := LL.first 300 p (by omega) (by omega) (by unfold nbk; omega)
    have r1 : roomD s1 = 150 := by unfold roomD; rw [k1]
    obtain ⟨s2, e2, L2, f2⟩ := L1.append [rec] (by simp; omega) (by rw [r1]; simp only [spanL, List.append_nil]; unfold nbk; omega)
    simp only [List.nil_append] at e2 L2
    obtain ⟨rs, hpk, hrs⟩ := made_found L2 zs
    have k2 : s2.safe.length = 300 := by rw [f2, k1]
    have CN : Hid (Calls Try.prog 12 #[.int .i64 300] W fun e w' => ∃ q, e = .returned (.tuple #[.pointer (some ⟨q, 0, none⟩), .int .i64 0]) ∧ DI N0 W w' q (dNew 300)) := newD 300 W (by omega) (by omega)
    have CO := Lib.hid (fun w1 q (h : DI N0 W w1 q (dNew 300)) => h.openJ (lOpen_ok rfl (by rw [dNew_len]; omega)))
    have CB := Lib.hid (fun w1 lb q (h : JI N0 W w1 lb q (dNew 300) (lPick (dNew 300))) => h.begin' (grew_refl _) p A0 n0 c0 (b0.keep h.grew) a0 m0 (fun a ha h0 => Or.inl (b0.old a ha h0)) (by omega) (by simp [dNew]) e1 L1.on)
    have CA : Hid (∀ w1 lb q, JI N0 W w1 lb q s1 (lgL 0 1 p [] true) → Calls Try.prog 30 #[.pointer (some ⟨lb, 0, none⟩), .slice (some ⟨w1.heap.size, 0, none⟩) 1 1] (w1.alloc (.cells #[.slice A1 n1 c1] 37)) (JOut N0 W lb q 0 s2 (lgL 0 1 p [rec] true))) := fun w1 lb q h =>
      h.append' (grew_alloc _ _ _) [rec] _ 1 1 (rows1S _ (b1.keep h.grew) a1 m1 (by omega) (fun a ha h0 hm => by have := b1.old a ha h0; have := hm.1; omega) (fun hm => hm.2 (Or.inr ⟨Nat.le_refl _, by simp⟩))) (by omega) (by rw [o1]; simp) e2 L2.on
    have CC := Lib.hid (fun w1 q (h : DI N0 W w1 q s2) => h.crash' A2 n2 c2 zs i2 m2 (by have := L2.opn; omega))
    have CT := Lib.hid (fun w1 q (h : DI N0 W w1 q (dCrash s2 zs)) => h.start')
    have CO2 := Lib.hid (fun w1 q (h : DI N0 W w1 q (dAfter s2 zs)) => h.openJ (lOpen_ok rfl (by rw [dAfter_len, k2]; omega)))
    have HALL := Lib.hid (fun (hd : DOK s2) => made_all L2 zs hd hpk)
    rw [hpk] at CO2
    have CS := Lib.hid (fun w1 lb q (h : JI N0 W w1 lb q (dAfter s2 zs) (lgL 0 1 p rs false)) => h.snapL)
    have CR := Lib.hid (fun w1 lb q (h : JI N0 W w1 lb q (dAfter s2 zs) (lgL 0 1 p rs false)) => h.recsL)
    have CK := Lib.hid (fun (A B : Option Addr) (n m c c2 : Nat) (xs ys : List UInt8) w hx hy hn hm => keepBytes_any A B n m c c2 xs ys w hx hy hn hm)
    have CW := Lib.hid (fun w => wakes07_any w)
    have CL := Lib.hid (fun w => rows_any n1 (by omega) w)
    have B0 := Lib.hid b0
    have B1 := Lib.hid b1
    have I2 := Lib.hid i2
    have HRS := Lib.hid hrs
    have HPL := Lib.hid hp
    have HRL := Lib.hid hrec
    have HZB := Lib.hid hz
    have d0 : ¬ (300 : Int) < (n0 : Int) := by omega
    have d1 : ¬ (2000 : Int) < (n1 : Int) := by omega
    have d2 : ¬ (2000 : Int) < (n2 : Int) := by omega
    have dl : ¬ (1 : Int) < (rs.length : Int) := by rcases hrs with h | h <;> rw [h] <;> simp
    clear e1 L1 o1 k1 r1 e2 L2 f2 k2 hpk hrs b0 b1 i2 hp hrec hz hbig
    generalize dAfter s2 zs = s4 at *
    go_enter Try.func8, Try.ntmps8
    go_upto_region 13 with (first
      | (go_at_call 12; ((with_reducible refine CN.out.mono ?_); rintro e w1 ⟨q, rfl, hd⟩; have D0 := Lib.hid hd; clear hd))
      | (go_at_call 23; ((with_reducible refine (CO.out _ _ D0.out).mono ?_); rintro e w2 ⟨hg, lb, rfl, hj⟩; have J0 := Lib.hid hj; clear hj hg))
      | (go_at_call 29; ((with_reducible refine (CB.out _ _ _ J0.out).mono ?_); rintro e w3 ⟨rfl, hj⟩; have J1 := Lib.hid hj; clear hj))
      | (go_at_call 30; ((with_reducible refine (CA.out _ _ _ J1.out).mono ?_); rintro e w4 ⟨rfl, hj⟩; have J2 := Lib.hid hj; clear hj))
      | (go_at_call 16; ((with_reducible refine (CC.out _ _ J2.out.di).mono ?_); rintro e w5 ⟨rfl, hd⟩; have D2 := Lib.hid hd; clear hd))
      | (go_at_call 18; ((with_reducible refine (CT.out _ _ D2.out).mono ?_); rintro e w6 ⟨rfl, hd⟩; have D3 := Lib.hid hd; clear hd))
      | (go_at_call 23; ((with_reducible refine (CO2.out _ _ D3.out).mono ?_); rintro e w7 ⟨hg, lb2, rfl, hj⟩; have J4 := Lib.hid hj; clear hj hg))
      | (go_at_call 26; ((with_reducible refine (CS.out _ _ _ J4.out).mono ?_); rintro e w8 ⟨hg8, A8, c8, rfl, _, hb8, _⟩; have J5 := Lib.hid (J4.out.grows hg8); have CK8 := Lib.hid (CK.out A8 A0 p.length n0 c8 c0 p p w8 hb8 (B0.out.keep J5.out.grew) (by have := HPL.out; omega) (by omega)); clear hg8 hb8; rw [decide_eq_true rfl] at CK8))
      | (go_at_call 32; ((with_reducible refine CK8.out.mono ?_); rintro e w9 ⟨rfl, hg9⟩; have J6 := Lib.hid (J5.out.grows hg9); clear hg9))
      | (go_at_call 27; ((with_reducible refine (CR.out _ _ _ J6.out).mono ?_); rintro e w10 ⟨hg10, v, rfl, hv⟩; obtain ⟨A10, c10, rfl, -⟩ := hv.toB; have J7 := Lib.hid (J6.out.grows hg10); clear hg10 hv)))
    have HNB : Hid (nbk (n1 + 21) = nbk (n1 + 21)) := rfl
    obtain ⟨nb, hnb⟩ : ∃ nb, nb = nbk (n1 + 21) := ⟨_, rfl⟩
    have HNB := Lib.hid hnb
    rw [← hnb] at CL
    have hnbS : nb ≤ 1000 := by rw [hnb]; unfold nbk; omega
    clear hnb CN CO CB CA CC CT CO2 CK8 D0 J0 J1 D2 D3 J4 J5 J6 CS
    go_loopw [11, 12] (fun v11 v12 wr => ∃ k : Nat, v12 = .int .i64 k ∧ k ≤ nb ∧ v11 = .bool (allP zs k) ∧ Hid (Grew w10 wr)) (fun _ v12 _ => nb - (intOf v12).toNat)
    case atStart => exact ⟨0, rfl, by omega, by rw [allP_zero], grew_refl _⟩
    case round =>
      obtain ⟨k, rfl, hk, rfl, HG⟩ := hrel
      by_cases hlt : k < nb
      · have a3 : (k : Int) < (nb : Int) := by omega
        have HSU := Lib.hid (allP_succ zs k)
        cases hall : allP zs k with
        | false =>
          have HN : Hid (allP zs (k + 1) = false) := by show _ = _; rw [HSU.out, hall]; rfl
          clear HSU hall
          go_wp2_with (go_at_call 36; ((with_reducible refine (CL.out _).mono ?_); rintro e w11 ⟨rfl, rfl⟩))
          go_roundw
          case rel => exact ⟨k + 1, by go_num, by omega, by rw [HN.out], HG⟩
          case measure => simp only [intOf]; omega
        | true =>
          by_cases hk2 : k < n2
          · have a4 : (k : Int) < (n2 : Int) := by omega
            obtain ⟨b, o, rfl, hbw, hcs⟩ := I2.out.2 (by omega)
            have J8 := J7.out.grew
            have g0 : wr.cell? ⟨b, o + k, none⟩ = some (.int .i64 (zs.getD k 0)) := (grew_cell (grew_trans J8 HG.out) (p := ⟨b, o + k, none⟩) hbw).trans (hcs k hk2)
            have hmem : zs.getD k 0 ∈ zs := by
              have hl : k < zs.length := by rw [I2.out.1]; exact hk2
              rw [List.getD_eq_getElem?_getD, List.getElem?_eq_getElem hl]
              exact List.getElem_mem _
            obtain ⟨p1, p2, p3, p4⟩ := pick65 _ (HZB.out _ hmem).1 (HZB.out _ hmem).2
            rw [hall] at HSU
            have HP4 := Lib.hid p4
            clear hmem hcs hall p4 J8
            generalize zs.getD k 0 = z at *
            by_cases hz5 : (z.tmod 66 + 66).tmod 66 = 65
            · have HN : Hid (allP zs (k + 1) = true) := by show _ = _; rw [HSU.out, decide_eq_true (HP4.out.1 hz5)]; rfl
              clear HSU HP4
              go_wp2_with (go_at_call 36; ((with_reducible refine (CL.out _).mono ?_); rintro e w11 ⟨rfl, rfl⟩))
              go_roundw
              case rel => exact ⟨k + 1, by go_num, by omega, by rw [HN.out], HG⟩
              case measure => simp only [intOf]; omega
            · have HN : Hid (allP zs (k + 1) = false) := by show _ = _; rw [HSU.out, decide_eq_false (fun h => hz5 (HP4.out.2 h))]; rfl
              have d5 : ((z.tmod 66 + 66).tmod 66 == 65) = false := by simp [hz5]
              clear HSU HP4
              go_wp2_with (go_at_call 36; ((with_reducible refine (CL.out _).mono ?_); rintro e w11 ⟨rfl, rfl⟩))
              go_roundw
              case rel => exact ⟨k + 1, by go_num, by omega, by rw [HN.out], HG⟩
              case measure => simp only [intOf]; omega
          · have a4 : ¬ (k : Int) < (n2 : Int) := by omega
            have HN : Hid (allP zs (k + 1) = false) := by
              show _ = _
              rw [HSU.out, List.getD_eq_getElem?_getD, List.getElem?_eq_none (by rw [I2.out.1]; omega)]; simp
            clear HSU hall
            go_wp2_with (go_at_call 36; ((with_reducible refine (CL.out _).mono ?_); rintro e w11 ⟨rfl, rfl⟩))
            go_roundw
            case rel => exact ⟨k + 1, by go_num, by omega, by rw [HN.out], HG⟩
            case measure => simp only [intOf]; omega
      · obtain rfl : k = nb := by omega
        have HJ8 := Lib.hid (J7.out.grows HG.out)
        have HDA := Lib.hid (fun h => HALL.out J2.out.di.ok (by rw [HRL.out, ← HNB.out]; exact h))
        clear HALL J2 J7 HG HNB
        go_upto_region 19 with (go_at_call 36; ((with_reducible refine (CL.out _).mono ?_); rintro e w11 ⟨rfl, rfl⟩))
        rcases HRS.out with hr | hr
        · subst hr
          have ha : allP zs k = false := by
            cases hc : allP zs k with
            | false => rfl
            | true => have := HDA.out hc; cases this
          rw [ha]
          clear HDA
          go_wp2_with (first
            | (go_at_call 27; ((with_reducible refine (CR.out _ _ _ HJ8.out).mono ?_); rintro e w12 ⟨hg12, v, rfl, hv⟩; obtain ⟨A12, c12, rfl, -⟩ := hv.toB; have J9 := Lib.hid (HJ8.out.grows hg12); clear hg12 hv))
            | (go_at_call 21; ((with_reducible refine (CW.out _).mono ?_); rintro e w13 ⟨rfl, hg⟩; have GE := Lib.hid (grew_trans J9.out.grew hg); clear hg)))
          go_ret
          exact ⟨rfl, GE.out⟩
        · subst hr
          clear HDA
          go_wp2_with (first
            | (go_at_call 27; ((with_reducible refine (CR.out _ _ _ HJ8.out).mono ?_); rintro e w12 ⟨hg12, v, rfl, hv⟩; obtain ⟨A12, c12, rfl, -⟩ := hv.toB; have J9 := Lib.hid (HJ8.out.grows hg12); clear hg12 hv HJ8))
            | (go_at_call 27; ((with_reducible refine (CR.out _ _ _ J9.out).mono ?_); rintro e w13 ⟨hg13, v, rfl, hv⟩; obtain ⟨A13, c13, rfl, hb13, -⟩ := hv.toB; have J10 := Lib.hid (J9.out.grows hg13); obtain ⟨b, o, X1, x1, y1, rfl, g0, hx1, hX1, hn1, hm1⟩ := hb13.at (k := 0) (by simp); rw [Nat.add_zero] at g0; have hx1' : Bys w13 X1 x1 rec := hx1; have CK9 := Lib.hid (CK.out X1 A1 x1 n1 y1 c1 rec rec w13 hx1' (B1.out.keep J10.out.grew) hm1 (by omega)); rw [decide_eq_true rfl] at CK9; clear hg13 hv hb13 hx1 hx1' hX1 hn1 hm1))
            | (go_at_call 32; ((with_reducible refine CK9.out.mono ?_); rintro e w14 ⟨rfl, hg⟩; have J11 := Lib.hid (J10.out.grows hg); clear hg))
            | (go_at_call 21; ((with_reducible refine (CW.out _).mono ?_); rintro e w15 ⟨rfl, hg⟩; have GE := Lib.hid (grew_trans J11.out.grew hg); clear hg)))
          go_ret
          exact ⟨rfl, GE.out⟩
theorem logMade_row (A0 A1 A2 : Option Addr) (n0 n1 n2 c0 c1 c2 : Nat) (l0 l1 l2 : List Int) (W : World) (r0 : Row (spInt .u8) W A0 n0 l0) (r1 : Row (spInt .u8) W A1 n1 l1) (r2 : Row (spInt .i64) W A2 n2 l2)
    (a0 : A0 = none → c0 = 0) (m0 : n0 ≤ c0) (a1 : A1 = none → c1 = 0) (m1 : n1 ≤ c1) (m2 : n2 ≤ c2) (k2 : c2 ≤ 9223372036854775807) :
    Calls Try.prog 8 #[.slice A0 n0 c0, .slice A1 n1 c1, .slice A2 n2 c2] W fun e w' => e = .returned (.bool true) ∧ Grew W w' := by
  obtain ⟨bs, hb⟩ := bys_of_row r0
  obtain ⟨bs1, hb1⟩ := bys_of_row r1
  exact logMade_walk A0 A1 A2 n0 n1 n2 c0 c1 c2 bs bs1 l2 W hb a0 m0 hb1 a1 m1 (ints_of_spec r2).1 (ints_of_spec r2).2 (by omega)
end Go.Proofs.Ythmdbfbhcnjghaa.NumK
namespace Go.Proofs.Ythmdbfbhcnjghaa.logMade
open Go.ChangeShapes Go.WideShapes Go.ChangeAt Go.RowKit
set_option linter.unusedVariables false

theorem own : ownKnob Try.prog.godebug = none := by kernel_rfl
theorem laidOut : laidOutB Try.prog = true := by kernel_rfl

set_option maxRecDepth 100000 in
theorem lifted (os : Os) (started : os.Started) (H : Type) (enc : TypeId × Value → H) :
    ReturnsInHanded {} Try.checked os 8 .any (Rows.logMadeSpec.pre6 enc Try.prog Try.f8 Rows.logMadeRow.domain false) (Rows.logMadeSpec.post enc Try.prog Try.f8 false true false false) := by
  refine returnsInHanded_of_change (C := Try.checked) own started (by kernel_rfl) Try.func8
    (ChangeSpec.witness6 (enc := enc) (C := Try.checked) false ⟨#[], #[.slice none 0 0, .slice none 0 0, .slice none 0 0], []⟩ 8 (by kernel_rfl) (by kernel_rfl) (by kernel_rfl) (by kernel_rfl)) ?_
  intro W base args ds gs before hval0 hW hcnd _
  have hval : ∀ (j : Nat) t v, Try.f8.params[j]? = some t → args[j]? = some v → Value.okWide Try.prog W .any base t v := hval0
  have hW' := hW
  obtain ⟨p, q, hA0, hV, rfl, hfz, hnd⟩ := hW
  have hA : DataW.TrodAll enc Try.prog W 0 (fun _ => true) true Try.f8.params.toList args.toList ds p := hA0
  skip
  rw [Try.params8] at hA hval
  obtain ⟨v0, vs0, d0, ds0, p0, q0, hargs, rfl, rfl, h0, r0⟩ := trodAll_cons hA
  obtain ⟨v1, vs1, d1, ds1, p1, q1, rfl, rfl, rfl, h1, r1⟩ := trodAll_cons r0
  obtain ⟨v2, vs2, d2, ds2, p2, q2, rfl, rfl, rfl, h2, r2⟩ := trodAll_cons r1
  obtain ⟨rfl, rfl, rfl⟩ := trodAll_nil r2
  obtain rfl : args = #[v0, v1, v2] := by cases args; simp_all
  obtain ⟨rfl, rfl⟩ := trodVars_none hV
  have k0 := h0
  have lt0 : ∀ x ∈ p0, x.block < W.heap.size := by obtain ⟨m, hm⟩ := k0; exact DataW.trod_lt m _ _ _ hm
  obtain ⟨A0, len0, cap0, l0, rfl, ro0, n0, c0, m0⟩ := NumK.arg_slice Try.underlying37 NumK.opens_bytes (hval 0 37 v0 rfl rfl) h0
  have k1 := h1
  have lt1 : ∀ x ∈ p1, x.block < W.heap.size := by obtain ⟨m, hm⟩ := k1; exact DataW.trod_lt m _ _ _ hm
  obtain ⟨A1, len1, cap1, l1, rfl, ro1, n1, c1, m1⟩ := NumK.arg_slice Try.underlying37 NumK.opens_bytes (hval 1 37 v1 rfl rfl) h1
  have k2 := h2
  have lt2 : ∀ x ∈ p2, x.block < W.heap.size := by obtain ⟨m, hm⟩ := k2; exact DataW.trod_lt m _ _ _ hm
  obtain ⟨A2, len2, cap2, l2, rfl, ro2, n2, c2, m2⟩ := NumK.arg_slice Try.underlying39 NumK.opens_ints (hval 2 39 v2 rfl rfl) h2
  clear hA0 hval0
  refine (NumK.logMade_row A0 A1 A2 len0 len1 len2 cap0 cap1 cap2 l0 l1 l2 W ro0 ro1 ro2 n0 c0 n1 c1 c2 m2).mono fun e W' ⟨he, bel⟩ => ?_
  subst he
  exact ⟨_, rfl, _, _, _, [], _, [], hW', trodAll_mk1 (shut_bool Try.underlying4 _), (trodAll_cons_mk (Below.trod laidOut (by kernel_rfl) (of_decide_eq_true (by kernel_rfl)) k0 bel lt0) (trodAll_cons_mk (Below.trod laidOut (by kernel_rfl) (of_decide_eq_true (by kernel_rfl)) k1 bel lt1) (trodAll_cons_mk (Below.trod laidOut (by kernel_rfl) (of_decide_eq_true (by kernel_rfl)) k2 bel lt2) trodAll_mk0))), rfl, bel.frame _, fun h => by cases h⟩

theorem over : Rows.logMadeRow.holds Try.pinned (OpenSpec.ofChange Rows.logMadeSpec) :=
  OpenClaim.holds_of_wide 8 Try.f8 rfl rfl rfl rfl rfl rfl rfl ⟨rfl, rfl, rfl, rfl, rfl⟩ rfl rfl rfl rfl rfl (by kernel_rfl) Try.func8 (by kernel_rfl)
    (of_decide_eq_true (by kernel_rfl)) (by unfold Func.isWrapper; first | (rw [if_pos (by decide +kernel)]; kernel_rfl) | (rw [if_neg (by decide +kernel)]; exact ⟨rfl, rfl⟩))
    (fun os started H enc _ => lifted os started H enc)

/-! ### the statement -/
theorem proved : Rows.LogMadeSaid := over
end Go.Proofs.Ythmdbfbhcnjghaa.logMade
