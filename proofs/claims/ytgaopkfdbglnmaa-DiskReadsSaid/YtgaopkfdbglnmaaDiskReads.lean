/- DiskReads. -/
import Derived.Test.YtgaopkfdbglnmaaDiskO
import Derived.Deep.CutBlock
import Derived.Test.YtgaopkfdbglnmaaArg06
namespace Go.Proofs.Ytgaopkfdbglnmaa.NumK
open Go.RowKit

/-- A row of bytes in block B that may be written. -/
def RowU (w : World) (B n : Nat) (d : Nat → UInt8) : Prop := B < w.heap.size ∧ ∀ j, j < n → w.cell? ⟨B, j, none⟩ = some (byv (d j)) ∧ w.frozen? ⟨B, j, none⟩ = false
theorem RowU.of {w w' : World} {B n : Nat} {d : Nat → UInt8} (h : RowU w B n d) (e : w'.heap[B]? = w.heap[B]?) (hs : w.heap.size ≤ w'.heap.size) : RowU w' B n d :=
  ⟨Nat.lt_of_lt_of_le h.1 hs, fun j hj => ⟨(World.cell?_of_block (w := w) (a := ⟨B, j, none⟩) e).trans (h.2 j hj).1, (World.frozen?_of_block (w := w) (a := ⟨B, j, none⟩) e).trans (h.2 j hj).2⟩⟩
theorem RowU.set {w : World} {B n : Nat} {d : Nat → UInt8} (h : RowU w B n d) (k : Nat) (x : UInt8) : RowU (w.setCell ⟨B, k, none⟩ (byv x)) B n (fun j => if j = k then x else d j) := by
  refine ⟨by simpa [World.setCell] using h.1, fun j hj => ⟨?_, by rw [World.frozen?_setCell]; exact (h.2 j hj).2⟩⟩
  by_cases e : j = k
  · subst e
    rw [World.cell?_setCell_same _ _ _ (h.2 j hj).1]; dsimp only; rw [if_pos rfl]
  · rw [World.cell?_setCell_other _ _ _ _ (by intro e'; simp only [Addr.mk.injEq] at e'; omega), (h.2 j hj).1]; dsimp only; rw [if_neg e]
theorem rowU_new5 (w : World) (t : TypeId) : RowU (w.alloc (.cells #[.int .u8 0, .int .u8 0, .int .u8 0, .int .u8 0, .int .u8 0] t)) w.heap.size 5 (fun _ => 0) := by
  refine ⟨by simp, fun j hj => ⟨?_, by simp⟩⟩
  match j, hj with
  | 0, _ => simp [byv]
  | 1, _ => simp [byv]
  | 2, _ => simp [byv]
  | 3, _ => simp [byv]
  | 4, _ => simp [byv]

/-- What is read is what was written there last. -/
structure Las (s : DS) (la : Nat → UInt8) : Prop where
  off : s.off = false
  arm : s.armed = 0
  len : s.safe.length = 5
  see : ∀ j, j < 5 → (cont s).getD j blk0 = blkOf (la j)
theorem las_new : Las (dNew 5) (fun _ => 0) := ⟨rfl, rfl, by simp [dNew], fun j hj => by
  show (List.replicate 5 blk0).getD j blk0 = blkOf 0
  rw [List.getD_eq_getElem?_getD, List.getElem?_replicate, if_pos hj]; rfl⟩
theorem Las.write {s : DS} {la : Nat → UInt8} (h : Las s la) (k : Nat) (hk : k < 5) (x : UInt8) : dWrite s (k : Int) (blkOf x) = (0, wrS s k (blkOf x)) ∧ Las (wrS s k (blkOf x)) (fun j => if j = k then x else la j) := by
  refine ⟨dWrite_on h.off h.arm (by rw [h.len]; exact hk), h.off, h.arm, h.len, fun j hj => ?_⟩
  rw [cont_wr]
  by_cases e : j = k
  · subst e; rw [getD_set_eq (by rw [cont_len, h.len]; exact hj), if_pos rfl]
  · rw [getD_set_ne (fun h => e h.symm), h.see j hj, if_neg e]
theorem Las.sync {s : DS} {la : Nat → UInt8} (h : Las s la) : dSync s = (0, syncS s) ∧ Las (syncS s) la :=
  ⟨dSync_on h.off h.arm, h.off, h.arm, by show (applyL _ _).length = 5; rw [applyL_len, h.len], h.see⟩
theorem Las.read {s : DS} {la : Nat → UInt8} (h : Las s la) (j : Nat) (hj : j < 5) : dRead s (j : Int) = (blkOf (la j), 0) := by
  rw [dRead_of h.off (by rw [h.len]; exact hj), h.see j hj]

set_option maxRecDepth 100000 in
set_option maxHeartbeats 1000000 in
theorem diskReads_big (A0 A1 A2 : Option Addr) (n0 n1 n2 c0 c1 c2 : Nat) (W : World) (h : 300 < n0 ∨ 300 < n1 ∨ 300 < n2) :
    Calls Try.prog 8 #[.slice A0 n0 c0, .slice A1 n1 c1, .slice A2 n2 c2] W fun e w' => e = .returned (.bool true) ∧ Grew W w' := by
  by_cases h0 : 300 < n0
  · have d0 : (300 : Int) < (n0 : Int) := by omega
    clear h
    go_enter Try.func8, Try.ntmps8
    go_wp2
    go_ret
    exact ⟨rfl, grew_refl _⟩
  · have d0 : ¬ (300 : Int) < (n0 : Int) := by omega
    by_cases h1 : 300 < n1
    · have d1 : (300 : Int) < (n1 : Int) := by omega
      clear h
      go_enter Try.func8, Try.ntmps8
      go_wp2
      go_ret
      exact ⟨rfl, grew_refl _⟩
    · have d1 : ¬ (300 : Int) < (n1 : Int) := by omega
      have d2 : (300 : Int) < (n2 : Int) := by omega
      clear h
      go_enter Try.func8, Try.ntmps8
      go_wp2
      go_ret
      exact ⟨rfl, grew_refl _⟩

set_option maxRecDepth 100000 in
set_option maxHeartbeats 4000000 in
theorem diskReads_walk (A0 A1 A2 : Option Addr) (n0 n1 n2 c0 c1 c2 : Nat) (l : List UInt8) (zs : List Int) (ys : List Bool) (W : World) (b0 : Bys W A0 n0 l) (i1 : Ints W A1 n1 zs) (hz : ∀ z ∈ zs, -9223372036854775808 ≤ z ∧ z ≤ 9223372036854775807) (i2 : Bols W A2 n2 ys) :
    Calls Try.prog 8 #[.slice A0 n0 c0, .slice A1 n1 c1, .slice A2 n2 c2] W fun e w' => e = .returned (.bool true) ∧ Grew W w' := by
  by_cases hbig : 300 < n0 ∨ 300 < n1 ∨ 300 < n2
  · exact diskReads_big A0 A1 A2 n0 n1 n2 c0 c1 c2 W hbig
  have d0 : ¬ (300 : Int) < (n0 : Int) := by omega
  have d1 : ¬ (300 : Int) < (n1 : Int) := by omega
  have d2 : ¬ (300 : Int) < (n2 : Int) := by omega
  have e0 : n0 ≤ 300 := by omega
  clear hbig
  have CN1 : Hid (Calls Try.prog 10 #[.int .i64 5] W (NewPost 5 W)) := new_any 5 W (by omega) (by omega)
  have HB := Lib.hid b0
  have HI := Lib.hid i1
  have HZ := Lib.hid hz
  have HO := Lib.hid i2
  have CB := Lib.hid (fun b w => block_any b w)
  have CW := Lib.hid (fun w => wakes06_any w)
  clear b0 i1 i2 hz
  have LN := Lib.hid las_new
  go_enter Try.func8, Try.ntmps8
  go_wp2_with (go_at_call 10; ((with_reducible refine CN1.out.mono ?_); rintro e w1 hp; obtain ⟨q, rfl, hd, hg⟩ := di_new (N := fun _ => False) (grew_refl W) (fun _ h => h.elim) hp; have D0 := Lib.hid hd; clear hd hg hp))
  have D1 : Hid (DI (fun k => False ∨ k = w1.heap.size) W (w1.alloc (.cells #[.int .u8 0, .int .u8 0, .int .u8 0, .int .u8 0, .int .u8 0] 56)) q (dNew 5)) := D0.out.beside w1.heap.size _ rfl
  have U1 := Lib.hid (rowU_new5 w1 56)
  obtain ⟨LB, hLB⟩ : ∃ LB, LB = w1.heap.size := ⟨_, rfl⟩
  have HLB : Hid (W.heap.size ≤ LB) := by show _ ≤ _; rw [hLB]; exact D0.out.grew.size
  rw [← hLB] at D1 U1 ⊢
  clear hLB
  generalize w1.alloc (.cells #[.int .u8 0, .int .u8 0, .int .u8 0, .int .u8 0, .int .u8 0] 56) = w2 at *
  clear D0 CN1
  go_loopw [10, 11] (fun v10 v11 wr => ∃ (k m : Nat) (s : DS) (la : Nat → UInt8), v11 = .int .i64 k ∧ v10 = .int .i64 m ∧ k ≤ n0 ∧ m ≤ k ∧ Hid (s.opn.length = m) ∧ Hid (DI (fun k => False ∨ k = LB) W wr q s) ∧ Hid (Las s la) ∧ Hid (RowU wr LB 5 la)) (fun _ v11 _ => n0 - (intOf v11).toNat)
  case atStart => exact ⟨0, 0, dNew 5, fun _ => 0, rfl, rfl, Nat.zero_le _, Nat.le_refl _, rfl, D1.out, LN.out, U1.out⟩
  case round =>
    obtain ⟨k, m, s, la, rfl, rfl, hk, hm, HOL, HD, HL, HU⟩ := hrel
    clear D1 U1 LN
    by_cases hlt0 : k < n0
    · have j0 : (k : Int) < (n0 : Int) := by omega
      by_cases hlt1 : k < n1
      · have j1 : (k : Int) < (n1 : Int) := by omega
        obtain ⟨b, o, rfl, hb, hcell⟩ := HB.out.2 (by omega)
        have HCk : Hid (∀ w', Grew W w' → w'.cell? ⟨b, o + k, none⟩ = some (.int .u8 ((l.getD k 0).toNat : Int))) := fun w' g => (grew_cell g (p := ⟨b, o + k, none⟩) hb).trans (hcell k hlt0)
        have a1 := HCk.out _ HD.out.grew
        obtain ⟨b1, o1, rfl, hb1, hcell1⟩ := HI.out.2 (by omega)
        have a2 := (grew_cell HD.out.grew (p := ⟨b1, o1 + k, none⟩) hb1).trans (hcell1 k hlt1)
        have hzl : zs.getD k 0 ∈ zs := by
          have : k < zs.length := by rw [HI.out.1]; exact hlt1
          simp only [List.getD, List.getElem?_eq_getElem this, Option.getD_some]
          exact List.getElem_mem this
        have hzb := HZ.out _ hzl
        generalize zs.getD k 0 = z at *
        obtain ⟨Z, hZ⟩ : ∃ Z, IntKind.u64.wrap z = Z := ⟨_, rfl⟩
        have hZ2 : 0 ≤ Z := by rw [← hZ, IntKind.wrap_u64]; omega
        obtain ⟨kk, hkk⟩ : ∃ kk : Nat, Z.tmod 5 = (kk : Int) := ⟨(Z % 5).toNat, by rw [Int.tmod_eq_emod_of_nonneg hZ2]; omega⟩
        have hk5 : kk < 5 := by rw [Int.tmod_eq_emod_of_nonneg hZ2] at hkk; omega
        have hwk : IntKind.i64.wrap (kk : Int) = (kk : Int) := by rw [IntKind.wrap_i64]; omega
        have i0 : (0 : Int) ≤ (kk : Int) := Int.natCast_nonneg _
        have i5 : (kk : Int) < 5 := by omega
        clear hcell hb hcell1 hb1 hzl hzb hZ2 HB HI
        generalize l.getD k 0 = x at *
        obtain ⟨hW, HLW⟩ := HL.out.write kk hk5 x
        have W1 := Lib.hid (fun w' (h : DI (fun k => False ∨ k = LB) W w' q s) => h.write (kk : Int) (blkOf x) (by simp [blkOf]) (by rw [HOL.out]; omega))
        rw [hW] at W1
        have HLW2 := Lib.hid HLW
        have HOL2 : Hid ((wrS s kk (blkOf x)).opn.length = m + 1) := by show _ = _; simp [wrS, HOL.out]
        have CBk := Lib.hid (CB.out x)
        have hxb : Hid (byv x = .int .u8 (x.toNat : Int)) := rfl
        have cu := (HU.out.2 kk hk5).1
        have cf := (HU.out.2 kk hk5).2
        clear hW HLW hk5
        generalize hX : blkV' (blkOf x) = X at *
        clear hX
        generalize wrS s kk (blkOf x) = s2 at *
        go_upto_region 16 with (first
          | (go_at_call 20; ((with_reducible refine (CBk.out wr).mono ?_); rintro e wb ⟨rfl, hg⟩; have E0 := Lib.hid (HD.out.grows hg); have U2 := HU.out.of (hg.block _ HU.out.1) hg.size; have HU2 := Lib.hid U2; clear hg U2))
          | (go_at_call 19; ((with_reducible refine (W1.out _ E0.out).mono ?_); rintro e w3 ⟨rfl, hd, hg⟩; have D3 := Lib.hid hd; have a3 := HCk.out _ hd.grew; have U3 := HU2.out.of (hg.block _ HU2.out.1 (fun h => h.2 (Or.inr rfl))) hg.size; have HU3 := Lib.hid U3; have cu3 := (U3.2 kk (by omega)).1; have cf3 := (U3.2 kk (by omega)).2; clear hd hg U3)))
        have HU4 := Lib.hid (HU3.out.set kk x)
        have D4 : Hid (DI (fun k => False ∨ k = LB) W (w3.setCell ⟨LB, kk, none⟩ (byv x)) q s2) := D3.out.keep ((Chg.refl _ w3).setCell ⟨LB, kk, none⟩ (byv x) (fun _ => ⟨Or.inr rfl, HLB.out⟩))
        rw [hxb.out] at D4 HU4
        generalize w3.setCell ⟨LB, kk, none⟩ (.int .u8 (x.toNat : Int)) = w4 at *
        clear cu3 cf3 HU3 D3 a3 E0 HU2 a1 a2 CBk W1
        have hm1 : IntKind.i64.wrap ((m : Int) + 1) = ((m + 1 : Nat) : Int) := by rw [IntKind.wrap_i64]; omega
        go_cut [84] from 39 to 111 (fun s84 wx => ∃ t : Bool, s84 = .bool t ∧ w4 = wx)
        case first =>
          by_cases h2 : k < n2
          · obtain ⟨b2, o2, rfl, hb2, hc2⟩ := HO.out.2 (by omega)
            have a5 := (grew_cell D4.out.grew (p := ⟨b2, o2 + k, none⟩) hb2).trans (hc2 k h2)
            generalize ys.getD k false = t at *
            have j2 : (k : Int) < (n2 : Int) := by omega
            clear hc2
            go_wp2
            go_meet
            case rel => exact ⟨t, rfl, rfl⟩
          · have j2 : ¬ (k : Int) < (n2 : Int) := by omega
            go_wp2
            go_meet
            case rel => exact ⟨false, rfl, rfl⟩
        case rest =>
          obtain ⟨t, rfl, rfl⟩ := hcut
          go_upto_if 84 with fail
          go_cut [10] from 39 to 111 (fun s10 wx => ∃ (m2 : Nat) (s3 : DS), s10 = .int .i64 (m2 : Int) ∧ m2 ≤ k + 1 ∧ Hid (s3.opn.length = m2) ∧ Hid (DI (fun k => False ∨ k = LB) W wx q s3) ∧ Hid (Las s3 (fun j => if j = kk then x else la j)) ∧ Hid (RowU wx LB 5 (fun j => if j = kk then x else la j)))
          case first =>
            cases t with
            | false =>
              go_wp2
              go_meet
              case rel => exact ⟨m + 1, s2, by go_num, by omega, HOL2, D4, HLW2, HU4⟩
            | true =>
              obtain ⟨hS, hLS⟩ := HLW2.out.sync
              have K1 := Lib.hid (D4.out.sync (by rw [HOL2.out]; omega))
              rw [hS] at K1
              have HLS := Lib.hid hLS
              clear hS hLS
              go_wp2_with (go_at_call 21; ((with_reducible refine K1.out.mono ?_); rintro e w5 ⟨rfl, hd, hg⟩; have D5 := Lib.hid hd; have U5 := Lib.hid (HU4.out.of (hg.block _ HU4.out.1 (fun h => h.2 (Or.inr rfl))) hg.size); clear hd hg))
              go_meet
              case rel => exact ⟨0, syncS s2, rfl, by omega, rfl, D5, HLS, U5⟩
          case rest =>
            obtain ⟨m2, s3, rfl, hm2, HOL3, D6, HL6, HU6⟩ := hcut
            clear HOL2 D4 HLW2 HU4 HL HU HD HOL
            generalize (fun j => if j = kk then x else la j) = lb at *
            have O1 := Lib.hid (fun w' (h : DI (fun k => False ∨ k = LB) W w' q s3) => h.opens)
            rw [HOL3.out] at O1
            go_wp2
            go_loopw [13] (fun v13 wr => ∃ j : Nat, v13 = .int .i64 j ∧ j ≤ 5 ∧ Hid (DI (fun k => False ∨ k = LB) W wr q s3) ∧ Hid (RowU wr LB 5 lb)) (fun v13 _ => 5 - (intOf v13).toNat)
            case atStart => exact ⟨0, rfl, Nat.zero_le _, D6.out, HU6.out⟩
            case round =>
              obtain ⟨j, rfl, hj, HD7, HU7⟩ := hrel
              clear D6 HU6
              by_cases hlj : j < 5
              · have t1 : (j : Int) < 5 := by omega
                have t0 : (0 : Int) ≤ (j : Int) := Int.natCast_nonneg _
                have R1 := Lib.hid (HD7.out.read (j : Int))
                rw [HL6.out.read j hlj] at R1
                have hEq := fun w => equal40 (blkOf (lb j)) (blkOf (lb j)) (by simp [blkOf]) (by simp [blkOf]) w
                simp only [decide_true] at hEq
                have hG := guard40
                have CBj := Lib.hid (fun w => CB.out (lb j) w)
                have hone := Lib.hid (bytesV_one' (b := blkOf (lb j)))
                have hl : (bytesV (blkOf (lb j))).length = 64 := by rw [bytesV_of]; simp
                have HV : Hid (readV (blkOf (lb j), 0) = .tuple #[.agg (bytesV (blkOf (lb j))).toArray, .int .i64 0]) := rfl
                rw [HV.out] at R1
                have HV2 : Hid (blkV' (blkOf (lb j)) = .agg (bytesV (blkOf (lb j))).toArray) := rfl
                rw [HV2.out] at CBj
                have hcj := (HU7.out.2 j hlj).1
                unfold byv at hcj
                clear HV HV2
                generalize bytesV (blkOf (lb j)) = cs at *
                generalize (lb j).toNat = u at *
                obtain ⟨ZZ, hZZ⟩ : ∃ ZZ, ZZ = (bytesV blk0).toArray := ⟨_, rfl⟩
                have hz := fun w => zero40 w
                rw [← hZZ] at hz
                have HZZ := Lib.hid hZZ
                clear hZZ
                go_upto_region 24 with (first
                  | (go_at_call 17; ((with_reducible refine R1.out.mono ?_); rintro e w8 ⟨rfl, hg⟩; have P1 := Lib.hid (put_new w8 ZZ HZZ.out 40 cs hl); have G1 := Lib.hid (grew_trans hg P1.out.2.2.1); clear hg))
                  | (refine wpList_store_mid (by rfl) 40 _ _ (by rfl) w8.heap.size 0 cs.toArray (by rfl) (by rfl) (by simpa [hl] using P1.out.2.1) (size40 (by simpa using hl.symm)) hone.out ?_))
                have hx1 := (grew_cell G1.out (p := ⟨LB, j, none⟩) HU7.out.1).trans hcj
                have hrg := P1.out.1
                have hlt8 := P1.out.2.2.2.2
                generalize (w8.alloc (.cells ZZ 40)).setCells w8.heap.size 0 cs = w9 at *
                have hu := Try.underlying40
                have hi : (Try.prog.info? 40).map (·.size) = some cs.length := size40 hl.symm
                have hLB9 : LB < w9.heap.size := Nat.lt_of_lt_of_le HU7.out.1 G1.out.size
                go_region_held3 (fun w' => w'.rangeAt w8.heap.size 0 cs ∧ w'.cell? ⟨LB, j, none⟩ = some (.int .u8 (u : Int)))
                  (first
                    | exact ⟨(World.rangeAt_drew _ _ _ _).2 hrg, hx1⟩
                    | exact ⟨rangeAt_of hrg (hg2.block _ hlt8), (grew_cell hg2 (p := ⟨LB, j, none⟩) hLB9).trans hx1⟩)
                  (first
                    | (go_at_call 20; ((with_reducible refine (CBj.out _).mono ?_); rintro e w10 ⟨rfl, hg2⟩)))
                have G2 := Lib.hid (grew_trans G1.out (grew_trans (grew_drew (grew_refl _)) hg2))
                have HD8 := Lib.hid (HD7.out.grows G2.out)
                have HU8 := Lib.hid (HU7.out.of (G2.out.block _ HU7.out.1) G2.out.size)
                clear hrg hx1 hlt8 hLB9 hg2 hu hi
                go_wp2
                go_roundw
                case rel => exact ⟨j + 1, by go_num, by omega, HD8, HU8⟩
                case measure => simp only [intOf]; omega
              · obtain rfl : j = 5 := by omega
                have O2 := Lib.hid (O1.out _ HD7.out)
                clear O1
                go_wp2_with (go_at_call 15; ((with_reducible refine O2.out.mono ?_); rintro e w8 ⟨rfl, rfl⟩))
                go_roundw
                case rel => exact ⟨k + 1, m2, s3, lb, by go_num, rfl, by omega, by omega, HOL3, HD7, HL6, HU7⟩
                case measure => simp only [intOf]; omega
      · have j1 : ¬ (k : Int) < (n1 : Int) := by omega
        have KW := Lib.hid (CW.out wr)
        clear CW CB
        go_wp2_with (go_at_call 11; ((with_reducible refine KW.out.mono ?_); rintro e w31 ⟨rfl, hg⟩; have GE := Lib.hid (grew_trans HD.out.grew hg); clear hg))
        go_ret
        exact ⟨rfl, GE.out⟩
    · have j0 : ¬ (k : Int) < (n0 : Int) := by omega
      have KW := Lib.hid (CW.out wr)
      clear CW CB
      go_wp2_with (go_at_call 11; ((with_reducible refine KW.out.mono ?_); rintro e w31 ⟨rfl, hg⟩; have GE := Lib.hid (grew_trans HD.out.grew hg); clear hg))
      go_ret
      exact ⟨rfl, GE.out⟩
theorem diskReads_row (A0 A1 A2 : Option Addr) (n0 n1 n2 c0 c1 c2 : Nat) (l z1 : List Int) (y2 : List Bool) (W : World) (b0 : Row (spInt .u8) W A0 n0 l) (i1 : Row (spInt .i64) W A1 n1 z1) (i2 : Row spBool W A2 n2 y2) :
    Calls Try.prog 8 #[.slice A0 n0 c0, .slice A1 n1 c1, .slice A2 n2 c2] W fun e w' => e = .returned (.bool true) ∧ Grew W w' := by
  obtain ⟨bs, hb⟩ := bys_of_row b0
  exact diskReads_walk A0 A1 A2 n0 n1 n2 c0 c1 c2 bs z1 y2 W hb (ints_of_spec i1).1 (ints_of_spec i1).2 (bols_of_spec i2)
end Go.Proofs.Ytgaopkfdbglnmaa.NumK
