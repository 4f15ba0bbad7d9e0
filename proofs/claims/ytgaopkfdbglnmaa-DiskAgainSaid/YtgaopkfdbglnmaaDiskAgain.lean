/- DiskAgain. -/
import Derived.Test.YtgaopkfdbglnmaaDiskO
import Derived.Deep.CutBlock
import Derived.Test.YtgaopkfdbglnmaaArg06
namespace Go.Proofs.Ytgaopkfdbglnmaa.NumK
open Go.RowKit

/-- What was written, block i mod 3 by block. -/
def agW (l : List UInt8) : List (Nat × Blk) := (List.range l.length).map fun i => (i % 3, blkOf (l.getD i 0))
def agS (l : List UInt8) : DS := { dNew 3 with opn := agW l }
theorem agS_snoc (l : List UInt8) (k : Nat) (hk : k < l.length) : wrS (agS (l.take k)) (k % 3) (blkOf (l.getD k 0)) = agS (l.take (k + 1)) := by
  unfold wrS agS agW
  have h1 : (l.take k).length = k := by rw [List.length_take]; omega
  have h2 : (l.take (k + 1)).length = k + 1 := by rw [List.length_take]; omega
  simp only [h1, h2, List.range_succ, List.map_append, List.map_cons, List.map_nil]
  congr 1
  congr 1
  · refine List.map_congr_left fun i hi => ?_
    have := List.mem_range.1 hi
    simp [List.getD, this, show i < k + 1 by omega]
  · simp [List.getD]
theorem agS_len (l : List UInt8) : (agS l).opn.length = l.length := by simp [agS, agW]
theorem agS_dok (l : List UInt8) : DOK (agS l) := by
  have h := dok_new 3 (by omega) (by omega)
  refine ⟨⟨h.all.1, fun x hx => ?_⟩, h.pos, h.few, h.arm, h.cut, (fun h => by cases h), h.off0⟩
  obtain ⟨i, _, rfl⟩ := List.mem_map.1 hx
  exact ⟨by show i % 3 < 3; omega, by simp [blkOf]⟩
theorem agS_write (l : List UInt8) (k : Nat) (hk : k < l.length) : dWrite (agS (l.take k)) ((k % 3 : Nat) : Int) (blkOf (l.getD k 0)) = (0, agS (l.take (k + 1))) := by
  rw [dWrite_on rfl rfl (by show k % 3 < (List.replicate 3 blk0).length; simp; omega), agS_snoc l k hk]
theorem crash_again (s : DS) (p m : List Int) : dCrash (dCrash s p) m = dCrash s p := rfl

set_option maxRecDepth 100000 in
set_option maxHeartbeats 1000000 in
theorem diskAgain_big (A0 A1 A2 : Option Addr) (n0 n1 n2 c0 c1 c2 : Nat) (W : World) (h : 300 < n0 ∨ 300 < n1 ∨ 300 < n2) :
    Calls Try.prog 7 #[.slice A0 n0 c0, .slice A1 n1 c1, .slice A2 n2 c2] W fun e w' => e = .returned (.bool true) ∧ Grew W w' := by
  by_cases h0 : 300 < n0
  · have d0 : (300 : Int) < (n0 : Int) := by omega
    clear h
    go_enter Try.func7, Try.ntmps7
    go_wp2
    go_ret
    exact ⟨rfl, grew_refl _⟩
  · have d0 : ¬ (300 : Int) < (n0 : Int) := by omega
    by_cases h1 : 300 < n1
    · have d1 : (300 : Int) < (n1 : Int) := by omega
      clear h
      go_enter Try.func7, Try.ntmps7
      go_wp2
      go_ret
      exact ⟨rfl, grew_refl _⟩
    · have d1 : ¬ (300 : Int) < (n1 : Int) := by omega
      have d2 : (300 : Int) < (n2 : Int) := by omega
      clear h
      go_enter Try.func7, Try.ntmps7
      go_wp2
      go_ret
      exact ⟨rfl, grew_refl _⟩

set_option maxRecDepth 100000 in
set_option maxHeartbeats 4000000 in
theorem diskAgain_walk (A0 A1 A2 : Option Addr) (n0 n1 n2 c0 c1 c2 : Nat) (l : List UInt8) (z1 z2 : List Int) (W : World) (b0 : Bys W A0 n0 l) (i1 : Ints W A1 n1 z1) (i2 : Ints W A2 n2 z2) :
    Calls Try.prog 7 #[.slice A0 n0 c0, .slice A1 n1 c1, .slice A2 n2 c2] W fun e w' => e = .returned (.bool true) ∧ Grew W w' := by
  by_cases hbig : 300 < n0 ∨ 300 < n1 ∨ 300 < n2
  · exact diskAgain_big A0 A1 A2 n0 n1 n2 c0 c1 c2 W hbig
  have d0 : ¬ (300 : Int) < (n0 : Int) := by omega
  have d1 : ¬ (300 : Int) < (n1 : Int) := by omega
  have d2 : ¬ (300 : Int) < (n2 : Int) := by omega
  have e0 : n0 ≤ 300 := by omega
  have e1 : n1 ≤ 300 := by omega
  have e2 : n2 ≤ 300 := by omega
  clear hbig
  have CN1 : Hid (Calls Try.prog 10 #[.int .i64 3] W (NewPost 3 W)) := new_any 3 W (by omega) (by omega)
  have CN2 : Hid (∀ w, Calls Try.prog 10 #[.int .i64 3] w (NewPost 3 w)) := fun w => new_any 3 w (by omega) (by omega)
  have HL := Lib.hid b0.1
  have HB := Lib.hid b0
  have HI1 := Lib.hid i1
  have HI2 := Lib.hid i2
  have CB := Lib.hid (fun b w => block_any b w)
  have CW := Lib.hid (fun w => wakes06_any w)
  clear b0 i1 i2
  have S0 : Hid (agS (l.take 0) = dNew 3) := rfl
  go_enter Try.func7, Try.ntmps7
  go_wp2_with (first
    | (go_at_call 10; ((with_reducible refine CN1.out.mono ?_); rintro e w1 hp; obtain ⟨qa, rfl, hd, hg⟩ := di_new (N := fun _ => False) (grew_refl W) (fun _ h => h.elim) hp; have D0 := Lib.hid hd; clear hd hg hp))
    | (go_at_call 10; ((with_reducible refine (CN2.out w1).mono ?_); rintro e w2 hp; obtain ⟨qb, rfl, hd⟩ := d2_new D0.out hp; have D1 := Lib.hid hd; clear hd hp)))
  go_loopw [11] (fun v11 wr => ∃ k : Nat, v11 = .int .i64 k ∧ k ≤ n0 ∧ Hid (D2 W wr qa (agS (l.take k)) qb (agS (l.take k)))) (fun v11 _ => n0 - (intOf v11).toNat)
  case atStart => exact ⟨0, rfl, Nat.zero_le _, D1.out⟩
  case round =>
    obtain ⟨k, rfl, hk, HD⟩ := hrel
    clear CN1 CN2 D0 D1
    by_cases hlt : k < n0
    · obtain ⟨b, o, rfl, hb, hcell⟩ := HB.out.2 (by omega)
      have HCk : Hid (∀ w', Grew W w' → w'.cell? ⟨b, o + k, none⟩ = some (.int .u8 ((l.getD k 0).toNat : Int))) := fun w' g => (grew_cell g (p := ⟨b, o + k, none⟩) hb).trans (hcell k hlt)
      have a1 := HCk.out _ HD.out.grew
      have j1 : (k : Int) < (n0 : Int) := by omega
      have kl : k < l.length := by rw [HL.out]; exact hlt
      have hw := agS_write l k kl
      have W1 := Lib.hid (fun w' (h : D2 W w' qa (agS (l.take k)) qb (agS (l.take k))) => h.write ((k % 3 : Nat) : Int) (blkOf (l.getD k 0)) (by simp [blkOf]) (by rw [agS_len, List.length_take]; omega))
      have W2 := Lib.hid (fun w' (h : D2 W w' qb (agS (l.take k)) qa (agS (l.take (k + 1)))) => h.write ((k % 3 : Nat) : Int) (blkOf (l.getD k 0)) (by simp [blkOf]) (by rw [agS_len, List.length_take]; omega))
      rw [hw] at W1 W2
      have CBk := Lib.hid (CB.out (l.getD k 0))
      have m3 : (k : Int).tmod 3 = (k : Int) % 3 := Int.tmod_eq_emod_of_nonneg (by omega)
      have m4 : ((k % 3 : Nat) : Int) = (k : Int) % 3 := rfl
      rw [m4] at W1 W2
      clear hcell hw hb HB kl m4
      generalize l.getD k 0 = x at *
      generalize hX : blkV' (blkOf x) = X at *
      clear hX
      generalize x.toNat = u at *
      go_wp2_with (first
        | (go_at_call 20; ((with_reducible refine (CBk.out wr).mono ?_); rintro e wb ⟨rfl, hg⟩; have E0 := Lib.hid (HD.out.grows hg); clear hg))
        | (go_at_call 19; ((with_reducible refine (W1.out _ E0.out).mono ?_); rintro e w3 ⟨rfl, hd⟩; have D3 := Lib.hid hd; have a3 := HCk.out _ hd.grew; clear hd))
        | (go_at_call 20; ((with_reducible refine (CBk.out w3).mono ?_); rintro e wb2 ⟨rfl, hg⟩; have E1 := Lib.hid ((D3.out.grows hg).swap); clear hg))
        | (go_at_call 19; ((with_reducible refine (W2.out _ E1.out).mono ?_); rintro e w4 ⟨rfl, hd⟩; have D4 := Lib.hid hd.swap; clear hd)))
      go_roundw
      case rel => exact ⟨k + 1, by go_num, by omega, D4⟩
      case measure => simp only [intOf]; omega
    · obtain rfl : n0 = k := by omega
      rw [List.take_of_length_le (by rw [HL.out]; exact Nat.le_refl _)] at HD
      have hln := agS_len l
      rw [HL.out] at hln
      have hok := agS_dok l
      have K1 := Lib.hid (fun w' (h : D2 W w' qb (agS l) qa (agS l)) => h.start (by omega))
      have HS1 : dStart (agS l) = agS l := dStart_on hok rfl
      rw [HS1] at K1
      have K2 := Lib.hid (fun w' (h : D2 W w' qa (agS l) qb (agS l)) => h.crash A1 n1 c1 z1 HI1.out (by omega) (by omega))
      have K3 := Lib.hid (fun w' (h : D2 W w' qb (agS l) qa (dCrash (agS l) z1)) => h.crash A1 n1 c1 z1 HI1.out (by omega) (by omega))
      have K4 := Lib.hid (fun w' (h : D2 W w' qb (dCrash (agS l) z1) qa (dCrash (agS l) z1)) => h.crash A2 n2 c2 z2 HI2.out (by omega) (by show 0 ≤ _; omega))
      rw [crash_again] at K4
      have K5 := Lib.hid (fun w' (h : D2 W w' qb (dCrash (agS l) z1) qa (dCrash (agS l) z1)) => h.arm 1 (by omega))
      rw [show dArm (dCrash (agS l) z1) 1 = dCrash (agS l) z1 from rfl] at K5
      have K6 := Lib.hid (fun w' (h : D2 W w' qa (dCrash (agS l) z1) qb (dCrash (agS l) z1)) => h.start (by show 0 ≤ _; omega))
      obtain ⟨S, hS⟩ : ∃ S, dStart (dCrash (agS l) z1) = S := ⟨_, rfl⟩
      have hS2 : S = { dCrash (agS l) z1 with off := false } := by rw [← hS]; rfl
      have K7 := Lib.hid (fun w' (h : D2 W w' qb (dCrash (agS l) z1) qa S) => h.start (by show 0 ≤ _; omega))
      rw [hS] at K6 K7
      have hS3 : S.off = false ∧ S.armed = 0 ∧ S.opn = [] ∧ S.safe.length = 3 := by
        rw [hS2]; refine ⟨rfl, rfl, rfl, ?_⟩
        show (crashL z1 0 (agS l).safe (agS l).opn).length = 3
        rw [crashL_len]; rfl
      have hSy : dSync S = (0, S) := by
        rw [dSync_on hS3.1 hS3.2.1]
        unfold syncS
        rw [hS3.2.2.1, hS2]
        rfl
      have K8 := Lib.hid (fun w' (h : D2 W w' qb S qa S) => h.sync (by rw [hS3.2.2.1]; show 0 ≤ _; omega))
      rw [hSy] at K8
      have K9 := Lib.hid (fun w' (h : D2 W w' qb S qa S) => h.opens)
      rw [hS3.2.2.1] at K9
      have KR := Lib.hid (fun w' qa qb (h : D2 W w' qa S qb S) at' => h.read at')
      have HRD : Hid (∀ k : Nat, k < 3 → dRead S (k : Int) = ((cont S).getD k blk0, 0)) := fun k hk => dRead_of hS3.1 (by omega)
      have HRL := Lib.hid (fun (w' : World) (h : D2 W w' qa S qb S) (k : Int) => dRead_len h.okA k)
      clear hS hS2 hS3 hSy HS1 hok hln
      generalize dCrash (agS l) z1 = T at *
      generalize agS l = U at *
      clear CB HB HI1 HI2 HL S0
      go_wp2_with (first
        | (go_at_call 23; ((with_reducible refine (K1.out _ HD.out.swap).mono ?_); rintro e w11 ⟨rfl, hd⟩; have E1 := Lib.hid hd; clear hd))
        | (go_at_call 22; ((with_reducible refine (K2.out _ E1.out.swap).mono ?_); rintro e w12 ⟨rfl, hd⟩; have E2 := Lib.hid hd; clear hd))
        | (go_at_call 22; ((with_reducible refine (K3.out _ E2.out.swap).mono ?_); rintro e w13 ⟨rfl, hd⟩; have E3 := Lib.hid hd; clear hd))
        | (go_at_call 22; ((with_reducible refine (K4.out _ E3.out).mono ?_); rintro e w14 ⟨rfl, hd⟩; have E4 := Lib.hid hd; clear hd))
        | (go_at_call 25; ((with_reducible refine (K5.out _ E4.out).mono ?_); rintro e w15 ⟨rfl, hd⟩; have E5 := Lib.hid hd; clear hd))
        | (go_at_call 23; ((with_reducible refine (K6.out _ E5.out.swap).mono ?_); rintro e w16 ⟨rfl, hd⟩; have E6 := Lib.hid hd; clear hd))
        | (go_at_call 23; ((with_reducible refine (K7.out _ E6.out.swap).mono ?_); rintro e w17 ⟨rfl, hd⟩; have E7 := Lib.hid hd; clear hd))
        | (go_at_call 21; ((with_reducible refine (K8.out _ E7.out).mono ?_); rintro e w18 ⟨rfl, hd⟩; have E8 := Lib.hid hd; clear hd))
        | (go_at_call 15; ((with_reducible refine (K9.out _ E8.out).mono ?_); rintro e w19 ⟨rfl, rfl⟩)))
      clear K1 K2 K3 K4 K5 K6 K7 K8 K9
      go_loopw [12] (fun v12 wr => ∃ k : Nat, v12 = .int .i64 k ∧ k ≤ 3 ∧ Hid (D2 W wr qa S qb S)) (fun v12 _ => 3 - (intOf v12).toNat)
      case atStart => exact ⟨0, rfl, Nat.zero_le _, E8.out.swap⟩
      case round =>
        obtain ⟨k, rfl, hk, HD2⟩ := hrel
        by_cases hlt : k < 3
        · have j1 : (k : Int) < 3 := by omega
          have R1 := Lib.hid (fun w' h => KR.out w' qa qb h (k : Int))
          have R2 := Lib.hid (fun w' (h : D2 W w' qb S qa S) => h.read (k : Int))
          have HL2 := Lib.hid (HRL.out _ HD2.out (k : Int))
          have hrd := HRD.out k hlt
          rw [hrd] at R1 R2 HL2
          have HL3 : Hid (((cont S).getD k blk0).length = 64) := HL2.out
          have hEq := fun w => equal40 _ _ HL3.out HL3.out w
          have hG := guard40
          simp only [decide_true] at hEq
          have hone := Lib.hid (bytesV_one' (b := (cont S).getD k blk0))
          have hl := bytesV_len ((cont S).getD k blk0)
          rw [HL3.out] at hl
          have HV : Hid (readV ((cont S).getD k blk0, 0) = .tuple #[.agg (bytesV ((cont S).getD k blk0)).toArray, .int .i64 0]) := rfl
          rw [HV.out] at R1 R2
          clear HV hrd HL2 HL3 KR HRD HRL
          generalize bytesV ((cont S).getD k blk0) = cs at *
          obtain ⟨Z, hZ⟩ : ∃ Z, Z = (bytesV blk0).toArray := ⟨_, rfl⟩
          have hz := fun w => zero40 w
          rw [← hZ] at hz
          have HZ := Lib.hid hZ
          clear hZ
          go_wp2_with (first
            | (go_at_call 17; ((with_reducible refine (R1.out _ HD2.out).mono ?_); rintro e w21 ⟨rfl, hg⟩; have P1 := Lib.hid (put_new w21 Z HZ.out 40 cs hl); have F1 := Lib.hid (HD2.out.grows (grew_trans hg P1.out.2.2.1)); clear hg))
            | (refine wpList_store_mid (by rfl) 40 _ _ (by rfl) w21.heap.size 0 cs.toArray (by rfl) (by rfl) (by simpa [hl] using P1.out.2.1) (size40 (by simpa using hl.symm)) hone.out ?_)
            | (go_at_call 17; ((with_reducible refine (R2.out _ F1.out.swap).mono ?_); rintro e w22 ⟨rfl, hg⟩; have P2 := Lib.hid (put_new w22 Z HZ.out 40 cs hl); have F2 := Lib.hid (F1.out.grows (grew_trans hg P2.out.2.2.1)); have Q1 := Lib.hid (rangeAt_of P1.out.1 ((grew_trans hg P2.out.2.2.1).block _ P1.out.2.2.2.2)); clear hg))
            | (refine wpList_store_mid (by rfl) 40 _ _ (by rfl) w22.heap.size 0 cs.toArray (by rfl) (by rfl) (by simpa [hl] using P2.out.2.1) (size40 (by simpa using hl.symm)) hone.out ?_)
            | (refine wpList_load_mid (by rfl) 40 _ (by rfl) w21.heap.size 0 (by rfl) cs _ Q1.out Try.underlying40 rfl (size40 hl.symm) ?_)
            | (refine wpList_load_mid (by rfl) 40 _ (by rfl) w22.heap.size 0 (by rfl) cs _ P2.out.1 Try.underlying40 rfl (size40 hl.symm) ?_))
          generalize (w22.alloc (.cells Z 40)).setCells w22.heap.size 0 cs = w23 at *
          go_roundw
          case rel => exact ⟨k + 1, by go_num, by omega, F2⟩
          case measure => simp only [intOf]; omega
        · obtain rfl : k = 3 := by omega
          have KW := Lib.hid (CW.out wr)
          clear CW KR HRD HRL
          go_wp2_with (go_at_call 11; ((with_reducible refine KW.out.mono ?_); rintro e w31 ⟨rfl, hg⟩; have GE := Lib.hid (grew_trans HD2.out.grew hg); clear hg))
          go_ret
          exact ⟨rfl, GE.out⟩
theorem diskAgain_row (A0 A1 A2 : Option Addr) (n0 n1 n2 c0 c1 c2 : Nat) (l z1 z2 : List Int) (W : World) (b0 : Row (spInt .u8) W A0 n0 l) (i1 : Row (spInt .i64) W A1 n1 z1) (i2 : Row (spInt .i64) W A2 n2 z2) :
    Calls Try.prog 7 #[.slice A0 n0 c0, .slice A1 n1 c1, .slice A2 n2 c2] W fun e w' => e = .returned (.bool true) ∧ Grew W w' := by
  obtain ⟨bs, hb⟩ := bys_of_row b0
  exact diskAgain_walk A0 A1 A2 n0 n1 n2 c0 c1 c2 bs z1 z2 W hb (ints_of_spec i1).1 (ints_of_spec i2).1
end Go.Proofs.Ytgaopkfdbglnmaa.NumK
