/- DiskLasts. -/
import Derived.Test.YtgaopkfdbglnmaaDiskO
import Derived.Test.YtgaopkfdbglnmaaRowB
import Derived.Deep.CutBlock
import Derived.Deep.QuietTactic
import Derived.BigQuiet
import Derived.Test.YtgaopkfdbglnmaaArg06
namespace Go.Proofs.Ytgaopkfdbglnmaa.NumK
open Go.RowKit

/-- While the first writes go on. -/
structure La1 (n i : Nat) (l : List UInt8) (s : DS) : Prop where
  off : s.off = false
  arm : s.armed = 0
  len : s.safe.length = n
  few : s.opn.length = i
  see : ∀ j, j < i → (cont s).getD j blk0 = blkOf (l.getD j 0)
theorem la1_new (n : Nat) (l : List UInt8) : La1 n 0 l (dNew n) := ⟨rfl, rfl, by simp [dNew], rfl, fun j hj => by omega⟩
theorem La1.write {n i : Nat} {l : List UInt8} {s : DS} (h : La1 n i l s) (hi : i < n) : dWrite s (i : Int) (blkOf (l.getD i 0)) = (0, wrS s i (blkOf (l.getD i 0))) ∧ La1 n (i + 1) l (wrS s i (blkOf (l.getD i 0))) := by
  refine ⟨dWrite_on h.off h.arm (by rw [h.len]; exact hi), h.off, h.arm, h.len, by simp [wrS, h.few], fun j hj => ?_⟩
  rw [cont_wr]
  by_cases e : i = j
  · subst e; rw [getD_set_eq (by rw [cont_len, h.len]; exact hi)]
  · rw [getD_set_ne e]; exact h.see j (by omega)
/-- What is synced, and what was written since. -/
structure La2 (n i : Nat) (l : List UInt8) (t : Nat → Bool) (s : DS) : Prop where
  off : s.off = false
  arm : s.armed = 0
  len : s.safe.length = n
  few : s.opn.length = i
  safe : ∀ j, j < n → s.safe.getD j blk0 = blkOf (l.getD j 0)
  opn : ∀ w ∈ s.opn, w.1 < n ∧ t w.1 = true
theorem La1.sync {n : Nat} {l : List UInt8} {s : DS} (h : La1 n n l s) : dSync s = (0, syncS s) ∧ La2 n 0 l (fun _ => false) (syncS s) :=
  ⟨dSync_on h.off h.arm, h.off, h.arm, by show (applyL _ _).length = n; rw [applyL_len, h.len], rfl, h.see, fun w hw => by cases hw⟩
theorem La2.write {n i : Nat} {l : List UInt8} {t : Nat → Bool} {s : DS} (h : La2 n i l t s) (k : Nat) (hk : k < n) (x : UInt8) : dWrite s (k : Int) (blkOf x) = (0, wrS s k (blkOf x)) ∧ La2 n (i + 1) l (fun j => if j = k then true else t j) (wrS s k (blkOf x)) := by
  refine ⟨dWrite_on h.off h.arm (by rw [h.len]; exact hk), h.off, h.arm, h.len, by simp [wrS, h.few], h.safe, fun w hw => ?_⟩
  rcases List.mem_append.1 hw with hw | hw
  · have := h.opn w hw
    refine ⟨this.1, ?_⟩
    by_cases e : w.1 = k
    · exact if_pos e
    · exact (if_neg e).trans this.2
  · rw [List.mem_singleton] at hw; subst hw
    exact ⟨hk, if_pos rfl⟩
theorem La2.read {n i : Nat} {l : List UInt8} {t : Nat → Bool} {s : DS} (h : La2 n i l t s) (zs : List Int) (k : Nat) (hk : k < n) : ∃ B, dRead (dStart (dCrash s zs)) (k : Int) = (B, 0) ∧ (t k = false → B = blkOf (l.getD k 0)) := by
  have hs : (dStart (dCrash s zs)).safe = crashL zs 0 s.safe s.opn := rfl
  refine ⟨_, dRead_of rfl (by rw [hs, crashL_len, h.len]; exact hk), fun ht => ?_⟩
  show (applyL (dStart (dCrash s zs)).safe []).getD k blk0 = _
  rw [hs]
  show (crashL zs 0 s.safe s.opn).getD k blk0 = _
  rw [crashL_other zs 0 s.safe s.opn k (fun w hw e => by have := (h.opn w hw).2; rw [e, ht] at this; cases this), h.safe k hk]

set_option maxRecDepth 100000 in
set_option maxHeartbeats 1000000 in
theorem diskLasts_big (A0 A1 A2 : Option Addr) (n0 n1 n2 c0 c1 c2 : Nat) (W : World) (h : 300 < n0 ∨ 300 < n1 ∨ 300 < n2 ∨ n0 = 0) :
    Calls Try.prog 4 #[.slice A0 n0 c0, .slice A1 n1 c1, .slice A2 n2 c2] W fun e w' => e = .returned (.bool true) ∧ Grew W w' := by
  by_cases h0 : 300 < n0
  · have d0 : (300 : Int) < (n0 : Int) := by omega
    clear h
    go_enter Try.func4, Try.ntmps4
    go_wp2
    go_ret
    exact ⟨rfl, grew_refl _⟩
  · have d0 : ¬ (300 : Int) < (n0 : Int) := by omega
    by_cases h1 : 300 < n1
    · have d1 : (300 : Int) < (n1 : Int) := by omega
      clear h
      go_enter Try.func4, Try.ntmps4
      go_wp2
      go_ret
      exact ⟨rfl, grew_refl _⟩
    · have d1 : ¬ (300 : Int) < (n1 : Int) := by omega
      by_cases h2 : 300 < n2
      · have d2 : (300 : Int) < (n2 : Int) := by omega
        clear h
        go_enter Try.func4, Try.ntmps4
        go_wp2
        go_ret
        exact ⟨rfl, grew_refl _⟩
      · have d2 : ¬ (300 : Int) < (n2 : Int) := by omega
        obtain rfl : n0 = 0 := by omega
        clear h
        go_enter Try.func4, Try.ntmps4
        go_wp2
        go_ret
        exact ⟨rfl, grew_refl _⟩

set_option maxRecDepth 100000 in
set_option maxHeartbeats 4000000 in
theorem diskLasts_walk (A0 A1 A2 : Option Addr) (n0 n1 n2 c0 c1 c2 : Nat) (l : List UInt8) (zs z2 : List Int) (W : World) (b0 : Bys W A0 n0 l) (i1 : Ints W A1 n1 zs) (hz : ∀ z ∈ zs, -9223372036854775808 ≤ z ∧ z ≤ 9223372036854775807) (i2 : Ints W A2 n2 z2) :
    Calls Try.prog 4 #[.slice A0 n0 c0, .slice A1 n1 c1, .slice A2 n2 c2] W fun e w' => e = .returned (.bool true) ∧ Grew W w' := by
  by_cases hbig : 300 < n0 ∨ 300 < n1 ∨ 300 < n2 ∨ n0 = 0
  · exact diskLasts_big A0 A1 A2 n0 n1 n2 c0 c1 c2 W hbig
  have d0 : ¬ (300 : Int) < (n0 : Int) := by omega
  have d1 : ¬ (300 : Int) < (n1 : Int) := by omega
  have d2 : ¬ (300 : Int) < (n2 : Int) := by omega
  have d3 : ((n0 : Int) == 0) = false := by simp; omega
  have e0 : n0 ≤ 300 := by omega
  have e1 : n1 ≤ 300 := by omega
  have e2 : n2 ≤ 300 := by omega
  have hpos : 0 < n0 := by omega
  clear hbig
  have CN1 := Lib.hid (new_any n0 W (by omega) (by omega))
  have HB := Lib.hid b0
  have HL := Lib.hid b0.1
  have HI := Lib.hid i1
  have HZ := Lib.hid hz
  have HP := Lib.hid i2
  have CB := Lib.hid (fun b w => block_any b w)
  have CW := Lib.hid (fun w => wakes06_any w)
  clear b0 i1 i2 hz
  have LN := Lib.hid (la1_new n0 l)
  have hmk := fun w => run_bools w n0 (by omega)
  go_enter Try.func4, Try.ntmps4
  go_wp2_with (go_at_call 10; ((with_reducible refine CN1.out.mono ?_); rintro e w1 hp; obtain ⟨q, rfl, hd, hg⟩ := di_new (N := fun _ => False) (grew_refl W) (fun _ h => h.elim) hp; have D0 := Lib.hid hd; clear hd hg hp))
  go_loopw [9] (fun v9 wr => ∃ (i : Nat) (s : DS), v9 = .int .i64 i ∧ i ≤ n0 ∧ Hid (DI (fun _ => False) W wr q s) ∧ Hid (La1 n0 i l s)) (fun v9 _ => n0 - (intOf v9).toNat)
  case atStart => exact ⟨0, _, rfl, Nat.zero_le _, D0.out, LN.out⟩
  case round =>
    obtain ⟨i, s, rfl, hi, HD, HS⟩ := hrel
    clear D0 LN CN1
    by_cases hli : i < n0
    · have j1 : (i : Int) < (n0 : Int) := by omega
      obtain ⟨b, o, rfl, hb, hc⟩ := HB.out.2 (by omega)
      have a1 := (grew_cell HD.out.grew (p := ⟨b, o + i, none⟩) hb).trans (hc i hli)
      obtain ⟨hw, hls⟩ := HS.out.write hli
      have W1 := Lib.hid (fun w' (h : DI (fun _ => False) W w' q s) => h.write (i : Int) (blkOf (l.getD i 0)) (by simp [blkOf]) (by rw [HS.out.few]; omega))
      rw [hw] at W1
      have CBi := Lib.hid (fun w => CB.out (l.getD i 0) w)
      have HLS := Lib.hid hls
      clear hc hb hw hls HB hmk
      generalize hX : blkV' (blkOf (l.getD i 0)) = X at *
      clear hX
      generalize (l.getD i 0).toNat = u at *
      go_wp2_with (first
        | (go_at_call 20; ((with_reducible refine (CBi.out wr).mono ?_); rintro e w5 ⟨rfl, hg⟩; have E0 := Lib.hid (HD.out.grows hg); clear hg))
        | (go_at_call 19; ((with_reducible refine (W1.out _ E0.out).mono ?_); rintro e w6 ⟨rfl, hd, hg⟩; have E1 := Lib.hid hd; clear hd hg)))
      go_roundw
      case rel => exact ⟨i + 1, _, by go_num, by omega, E1, HLS⟩
      case measure => simp only [intOf]; omega
    · obtain rfl : n0 = i := by omega
      obtain ⟨hsy, hl2⟩ := HS.out.sync
      have S1 := Lib.hid (HD.out.sync (by rw [HS.out.few]; omega))
      rw [hsy] at S1
      have HL2 := Lib.hid hl2
      clear hsy hl2 HS
      generalize syncS s = s2 at *
      go_upto_region 15 with (first
        | (go_at_call 21; ((with_reducible refine S1.out.mono ?_); rintro e w7 ⟨rfl, hd, hg⟩; have D7 := Lib.hid hd; clear hd hg)))
      have D8 : Hid (DI (fun k => False ∨ k = w7.heap.size) W (w7.alloc (.cells (madeCells #[.bool false] n0) 4)) q s2) := D7.out.beside w7.heap.size _ rfl
      have R8 := Lib.hid (RowB.made w7 4 n0)
      obtain ⟨TB, hTB⟩ : ∃ TB, TB = w7.heap.size := ⟨_, rfl⟩
      have HTB : Hid (W.heap.size ≤ TB) := by show _ ≤ _; rw [hTB]; exact D7.out.grew.size
      rw [← hTB] at D8 R8 ⊢
      clear hTB
      generalize w7.alloc (.cells (madeCells #[.bool false] n0) 4) = w8 at *
      clear D7 HD S1 hmk
      go_loopw [11] (fun v11 wr => ∃ (i : Nat) (t : Nat → Bool) (s : DS), v11 = .int .i64 i ∧ i ≤ n1 ∧ Hid (DI (fun k => False ∨ k = TB) W wr q s) ∧ Hid (La2 n0 i l t s) ∧ Hid (RowB wr TB n0 t)) (fun v11 _ => n1 - (intOf v11).toNat)
      case atStart => exact ⟨0, _, _, rfl, Nat.zero_le _, D8.out, HL2.out, R8.out⟩
      case round =>
        obtain ⟨i, t, s3, rfl, hi2, HD, HS, HR⟩ := hrel
        clear D8 HL2 R8
        by_cases hli2 : i < n1
        · have j1 : (i : Int) < (n1 : Int) := by omega
          obtain ⟨b1, o1, rfl, hb1, hc1⟩ := HI.out.2 (by omega)
          have a1 := (grew_cell HD.out.grew (p := ⟨b1, o1 + i, none⟩) hb1).trans (hc1 i hli2)
          have hzl : zs.getD i 0 ∈ zs := by
            have : i < zs.length := by rw [HI.out.1]; exact hli2
            simp only [List.getD, List.getElem?_eq_getElem this, Option.getD_some]
            exact List.getElem_mem this
          have hzb := HZ.out _ hzl
          generalize zs.getD i 0 = z at *
          obtain ⟨Z, hZ⟩ : ∃ Z, IntKind.u64.wrap z = Z := ⟨_, rfl⟩
          have hZ2 : 0 ≤ Z := by rw [← hZ, IntKind.wrap_u64]; omega
          obtain ⟨k, hkk⟩ : ∃ k : Nat, Z.tmod (n0 : Int) = (k : Int) := by
            refine ⟨(Z % (n0 : Int)).toNat, ?_⟩
            rw [Int.tmod_eq_emod_of_nonneg hZ2]
            have := Int.emod_nonneg Z (show (n0 : Int) ≠ 0 by omega)
            omega
          have hk : k < n0 := by
            rw [Int.tmod_eq_emod_of_nonneg hZ2] at hkk
            have := Int.emod_lt_of_pos Z (show (0 : Int) < (n0 : Int) by omega)
            omega
          have hwk : IntKind.i64.wrap (k : Int) = (k : Int) := by rw [IntKind.wrap_i64]; omega
          have hwn : IntKind.u64.wrap (n0 : Int) = (n0 : Int) := by rw [IntKind.wrap_u64]; omega
          have j2 : (k : Int) < (n0 : Int) := by omega
          have j0 : (0 : Int) ≤ (k : Int) := Int.natCast_nonneg _
          have hn9 : ((n0 : Int) == 0) = false := d3
          obtain ⟨b, o, rfl, hb, hc⟩ := HB.out.2 hpos
          have HCk : Hid (∀ w', Grew W w' → w'.cell? ⟨b, o + k, none⟩ = some (.int .u8 ((l.getD k 0).toNat : Int))) := fun w' g => (grew_cell g (p := ⟨b, o + k, none⟩) hb).trans (hc k hk)
          obtain ⟨V1, hV1⟩ : ∃ V1, IntKind.u8.wrap (i : Int) = V1 := ⟨_, rfl⟩
          obtain ⟨V2, hV2⟩ : ∃ V2, IntKind.u8.wrap (((l.getD k 0).toNat : Int) + V1) = V2 := ⟨_, rfl⟩
          obtain ⟨V3, hV3⟩ : ∃ V3, IntKind.u8.wrap (V2 + 1) = V3 := ⟨_, rfl⟩
          obtain ⟨x, hx⟩ : ∃ x : UInt8, (x.toNat : Int) = V3 := ⟨UInt8.ofNat V3.toNat, by rw [UInt8.toNat_ofNat', ← hV3, IntKind.wrap_u8]; omega⟩
          have HCB := Lib.hid (fun w => CB.out x w)
          rw [hx] at HCB
          obtain ⟨hw, hl3⟩ := HS.out.write k hk x
          have W1 := Lib.hid (fun w' (h : DI (fun k => False ∨ k = TB) W w' q s3) => h.write (k : Int) (blkOf x) (by simp [blkOf]) (by rw [HS.out.few]; omega))
          rw [hw] at W1
          have HL3 := Lib.hid hl3
          have cu := (HR.out.2 k hk).1
          have cf := (HR.out.2 k hk).2
          have HR2 := Lib.hid (HR.out.set k true)
          have DD : Hid (DI (fun k => False ∨ k = TB) W (wr.setCell ⟨TB, k, none⟩ (.bool true)) q s3) := HD.out.keep ((Chg.refl _ wr).setCell ⟨TB, k, none⟩ (.bool true) (fun _ => ⟨Or.inr rfl, HTB.out⟩))
          have a2 := HCk.out _ DD.out.grew
          clear hc1 hb1 hzl hzb hZ2 hk hc hb hw hl3 HCk hx
          generalize hX : blkV' (blkOf x) = X at *
          clear hX
          generalize (l.getD k 0).toNat = u at *
          generalize wrS s3 k (blkOf x) = s4 at *
          go_wp2_with (first
            | (go_at_call 20; ((with_reducible refine (HCB.out _).mono ?_); rintro e w10 ⟨rfl, hg⟩; have E0 := Lib.hid (DD.out.grows hg); have R0 := Lib.hid (HR2.out.keep hg); clear hg))
            | (go_at_call 19; ((with_reducible refine (W1.out _ E0.out).mono ?_); rintro e w11 ⟨rfl, hd, hg⟩; have E1 := Lib.hid hd; have R1 : Hid (RowB w11 TB n0 (fun j => if j = k then true else t j)) := ⟨Nat.lt_of_lt_of_le R0.out.1 hg.size, fun j hj => ⟨(hg.cell (p := ⟨TB, j, none⟩) R0.out.1 (fun h => h.2 (Or.inr rfl))).trans (R0.out.2 j hj).1, (hg.frozen (p := ⟨TB, j, none⟩) R0.out.1 (fun h => h.2 (Or.inr rfl))).trans (R0.out.2 j hj).2⟩⟩; clear hd hg)))
          go_roundw
          case rel => exact ⟨i + 1, _, _, by go_num, by omega, E1, HL3, R1⟩
          case measure => simp only [intOf]; omega
        · obtain rfl : n1 = i := by omega
          have T1 := Lib.hid (HD.out.crash A2 n2 c2 z2 (HP.out.keep HD.out.grew) (fun a e h0 => Or.inl (by obtain ⟨b, o, e2, hb, _⟩ := HP.out.2 h0; rw [e] at e2; cases e2; exact hb)) (by omega) (by rw [HS.out.few]; omega))
          have T2 := Lib.hid (fun w' (h : DI (fun k => False ∨ k = TB) W w' q (dCrash s3 z2)) => h.start (by show 0 ≤ _; omega))
          have HRD := Lib.hid (fun k hk => HS.out.read z2 k hk)
          clear HI HZ HS HP
          generalize dCrash s3 z2 = sc at *
          generalize dStart sc = sd at *
          go_wp2_with (first
            | (go_at_call 22; ((with_reducible refine T1.out.mono ?_); rintro e w12 ⟨rfl, hd, hg⟩; have D12 := Lib.hid hd; have R12 : Hid (RowB w12 TB n0 t) := ⟨Nat.lt_of_lt_of_le HR.out.1 hg.size, fun j hj => ⟨(hg.cell (p := ⟨TB, j, none⟩) HR.out.1 (fun h => h.2 (Or.inr rfl))).trans (HR.out.2 j hj).1, (hg.frozen (p := ⟨TB, j, none⟩) HR.out.1 (fun h => h.2 (Or.inr rfl))).trans (HR.out.2 j hj).2⟩⟩; clear hd hg))
            | (go_at_call 23; ((with_reducible refine (T2.out _ D12.out).mono ?_); rintro e w13 ⟨rfl, hd, hg⟩; have D13 := Lib.hid hd; have R13 : Hid (RowB w13 TB n0 t) := ⟨Nat.lt_of_lt_of_le R12.out.1 hg.size, fun j hj => ⟨(hg.cell (p := ⟨TB, j, none⟩) R12.out.1 (fun h => h.2 (Or.inr rfl))).trans (R12.out.2 j hj).1, (hg.frozen (p := ⟨TB, j, none⟩) R12.out.1 (fun h => h.2 (Or.inr rfl))).trans (R12.out.2 j hj).2⟩⟩; clear hd hg)))
          clear T1 T2 HR HD D12 R12
          go_loopw [13] (fun v13 wr => ∃ k : Nat, v13 = .int .i64 k ∧ k ≤ n0 ∧ Hid (DI (fun k => False ∨ k = TB) W wr q sd) ∧ Hid (RowB wr TB n0 t)) (fun v13 _ => n0 - (intOf v13).toNat)
          case atStart => exact ⟨0, rfl, Nat.zero_le _, D13.out, R13.out⟩
          case round =>
            obtain ⟨k, rfl, hk, HD3, HR3⟩ := hrel
            clear D13 R13
            by_cases hlk : k < n0
            · have j1 : (k : Int) < (n0 : Int) := by omega
              have j0 : (0 : Int) ≤ (k : Int) := Int.natCast_nonneg _
              obtain ⟨B, r1, r2⟩ := HRD.out k hlk
              have R1 := Lib.hid (HD3.out.read (k : Int))
              have hBl := dRead_len HD3.out.ok (k : Int)
              rw [r1] at R1 hBl
              have hBl2 : B.length = 64 := hBl
              have hone := Lib.hid (bytesV_one' (b := B))
              have hl : (bytesV B).length = 64 := by rw [bytesV_len]; exact hBl2
              have HV : Hid (readV (B, 0) = .tuple #[.agg (bytesV B).toArray, .int .i64 0]) := rfl
              rw [HV.out] at R1
              have HBe : Hid (t k = false → bytesV (blkOf (l.getD k 0)) = bytesV B) := fun h => by rw [r2 h]
              have hct := (HR3.out.2 k hlk).1
              obtain ⟨b, o, rfl, hb, hc⟩ := HB.out.2 hpos
              have HCk : Hid (∀ w', Grew W w' → w'.cell? ⟨b, o + k, none⟩ = some (.int .u8 ((l.getD k 0).toNat : Int))) := fun w' g => (grew_cell g (p := ⟨b, o + k, none⟩) hb).trans (hc k hlk)
              have HCB : Hid (∀ w, Calls Try.prog 20 #[.int .u8 ((l.getD k 0).toNat : Int)] w fun e w' => e = .returned (.agg (bytesV (blkOf (l.getD k 0))).toArray) ∧ Grew w w') := fun w => CB.out _ w
              have hEq : Hid (∀ w, (Op.equalIn 10000 40 (.agg (bytesV B).toArray) (.agg (bytesV B).toArray)).run Try.prog w = .ok true w) := fun w => by have := equal40 B B hBl2 hBl2 w; simpa using this
              clear r1 r2 hBl hBl2 HV hc hb CB HRD HB
              obtain ⟨ZZ, hZZ⟩ : ∃ ZZ, ZZ = (bytesV blk0).toArray := ⟨_, rfl⟩
              have hz := fun w => zero40 w
              rw [← hZZ] at hz
              have HZZ := Lib.hid hZZ
              clear hZZ
              generalize bytesV B = cs at *
              go_upto_region 27 with (first
                | (go_at_call 17; ((with_reducible refine R1.out.mono ?_); rintro e w14 ⟨rfl, hg⟩; have P1 := Lib.hid (put_new w14 ZZ HZZ.out 40 cs hl); have G1 := Lib.hid (grew_trans hg P1.out.2.2.1); clear hg))
                | (refine wpList_store_mid (by rfl) 40 _ _ (by rfl) w14.heap.size 0 cs.toArray (by rfl) (by rfl) (by simpa [hl] using P1.out.2.1) (size40 (by simpa using hl.symm)) hone.out ?_))
              have ht1 := (grew_cell G1.out (p := ⟨TB, k, none⟩) HR3.out.1).trans hct
              have hrg := P1.out.1
              have hlt14 := P1.out.2.2.2.2
              generalize (w14.alloc (.cells ZZ 40)).setCells w14.heap.size 0 cs = w15 at *
              have hc15 := HCk.out _ (grew_trans HD3.out.grew G1.out)
              clear R1 hct HCk
              have HD4 := Lib.hid (HD3.out.grows G1.out)
              have HR4 := Lib.hid (HR3.out.keep G1.out)
              clear G1 HD3 HR3 P1
              cases htk : t k with
              | true =>
                rw [htk] at ht1
                go_quiet (fail)
                have HD5 : Hid (DI (fun k => False ∨ k = TB) W (w15.drewN nq) q sd) := HD4.out.grows (grew_drewN (grew_refl _) _)
                have HR5 : Hid (RowB (w15.drewN nq) TB n0 t) := HR4.out.keep (grew_drewN (grew_refl _) _)
                generalize w15.drewN nq = w16 at HD5 HR5 ⊢
                go_wp2
                go_roundw
                case rel => exact ⟨k + 1, by go_num, by omega, HD5, HR5⟩
                case measure => simp only [intOf]; omega
              | false =>
                rw [htk] at ht1
                rw [HBe.out htk] at HCB
                clear HBe
                generalize (l.getD k 0).toNat = u at *
                have hEq2 := hEq.out
                have hG := guard40
                have hu := Try.underlying40
                have hi3 : (Try.prog.info? 40).map (·.size) = some cs.length := size40 hl.symm
                have gd : Grew w15 w15.drew := grew_drew (grew_refl _)
                have hTl := HR4.out.1
                have hbl : b < w15.heap.size := World.block_lt_of_cell? w15 _ hc15
                go_region_held3 (fun w' => w'.rangeAt w14.heap.size 0 cs ∧ w'.cell? ⟨TB, k, none⟩ = some (.bool false) ∧ w'.cell? ⟨b, o + k, none⟩ = some (.int .u8 (u : Int)))
                  (first
                    | exact ⟨(World.rangeAt_drew _ _ _ _).2 hrg, ht1, hc15⟩
                    | exact ⟨rangeAt_of hrg ((grew_trans gd hg2).block _ hlt14), (grew_cell (grew_trans gd hg2) (p := ⟨TB, k, none⟩) hTl).trans ht1, (grew_cell (grew_trans gd hg2) (p := ⟨b, o + k, none⟩) hbl).trans hc15⟩)
                  (first
                    | (go_at_call 20; ((with_reducible refine (HCB.out _).mono ?_); rintro e w16 ⟨rfl, hg2⟩)))
                have HD5 := Lib.hid (HD4.out.grows (grew_trans gd hg2))
                have HR5 := Lib.hid (HR4.out.keep (grew_trans gd hg2))
                clear hrg hlt14 hTl hbl hu hi3 gd hg2 hc15 ht1
                go_wp2
                go_roundw
                case rel => exact ⟨k + 1, by go_num, by omega, HD5, HR5⟩
                case measure => simp only [intOf]; omega
            · obtain rfl : n0 = k := by omega
              have KW := Lib.hid (CW.out wr)
              clear CW CB HRD HB
              go_wp2_with (go_at_call 11; ((with_reducible refine KW.out.mono ?_); rintro e w31 ⟨rfl, hg⟩; have GE := Lib.hid (grew_trans HD3.out.grew hg); clear hg))
              go_ret
              exact ⟨rfl, GE.out⟩
theorem diskLasts_row (A0 A1 A2 : Option Addr) (n0 n1 n2 c0 c1 c2 : Nat) (l z1 z2 : List Int) (W : World) (b0 : Row (spInt .u8) W A0 n0 l) (i1 : Row (spInt .i64) W A1 n1 z1) (i2 : Row (spInt .i64) W A2 n2 z2) :
    Calls Try.prog 4 #[.slice A0 n0 c0, .slice A1 n1 c1, .slice A2 n2 c2] W fun e w' => e = .returned (.bool true) ∧ Grew W w' := by
  obtain ⟨bs, hb⟩ := bys_of_row b0
  exact diskLasts_walk A0 A1 A2 n0 n1 n2 c0 c1 c2 bs z1 z2 W hb (ints_of_spec i1).1 (ints_of_spec i1).2 (ints_of_spec i2).1
end Go.Proofs.Ytgaopkfdbglnmaa.NumK
